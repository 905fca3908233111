/- The reference's Climb. -/
import Derived.Test.YtmheblpgofeafaaDoorRefClimb
namespace Go.Proofs.YtmheblpgofeafaaDoor
open Go.RowKit
set_option linter.unusedVariables false
set_option linter.unusedSimpArgs false

set_option maxRecDepth 100000 in
set_option maxHeartbeats 2000000 in
theorem rclimb_e1 (a n : Int) (p : Option Addr) (c cap : Nat) (dd : List Int) (w : World) (hdl : Hid (dd.length = 32)) (h1 : n < 1) :
    Calls Tryd.prog 25 #[.agg (bv dd).toArray, .int .i64 a, .int .i64 n, .slice p c cap] w fun e w' => e = .returned (.tuple #[.agg (bv (List.replicate 32 0)).toArray, .int .i64 1]) ∧ Below w.heap.size w w' := by
  go_enter Tryd.func25, Tryd.ntmps25
  go_upto_region 1 with (fail)
  generalize hW : World.alloc _ _ = W1
  have D1 := Lib.hid (show Blk W1 w.heap.size (bv dd).toArray 26 by rw [← hW]; exact (Blk.new w _ _).alloc _)
  have T1 := Lib.hid (show Blk W1 (w.heap.size + 1) (bv (List.replicate 32 0)).toArray 26 by rw [← hW]; have := zeros32 (w.alloc (.cells (bv dd).toArray 26)); rw [alloc_sz] at this; exact this)
  have B1 := Lib.hid (show Below w.heap.size w W1 by rw [← hW]; exact ((bel_alloc1 w _).alloc (by simp) _))
  clear hW
  obtain ⟨tb, htb⟩ : ∃ b, w.heap.size = b := ⟨_, rfl⟩
  have hB : w.heap.size ≤ tb := by omega
  have B2 : Hid (Below w.heap.size w W1) := B1
  rw [htb] at T1 D1 ⊢
  clear B1
  have HTB := Lib.hid htb
  clear htb
  have q1 := size32' (List.replicate 32 0) (List.length_replicate ..)
  have q3 := size32 (List.replicate 32 0) (List.length_replicate ..)
  have q4 : W1.there (tb + 1) 0 (bv (List.replicate 32 0)).toArray.size := by have := T1.out.there; simp only [bv_len, List.length_replicate] at this; simp only [List.size_toArray, bv_len, List.length_replicate]; exact this
  have q5 := all_oneCell_toArray (bv_one (List.replicate 32 0))
  go_wp2_with (refine wpList_store_mid rfl 26 (.tmp 8) (.tmp 33) rfl (tb + 1) 0 (bv (List.replicate 32 0)).toArray rfl (congrArg Value.agg zeros_rep) q4 q3 q5 ?_)
  refine bodyPost_ret (v := .tuple #[.agg (bv (List.replicate 32 0)).toArray, .int .i64 1]) (results_cell2 (a := ⟨tb + 1, 0, none⟩) rfl _ rfl rfl (run_loadVar_mid _ (tb + 1) 0 _ (bv (List.replicate 32 0)) _ (T1.out.fill rfl).range Tryd.underlying26 rfl q1)) rfl ⟨rfl, setCells_below (by omega) _ _ B2.out⟩
set_option maxRecDepth 100000 in
set_option maxHeartbeats 2000000 in
theorem rclimb_e2 (a n : Int) (p : Option Addr) (c cap : Nat) (dd : List Int) (w : World) (hdl : Hid (dd.length = 32)) (h1 : ¬ n < 1) (h2 : 1099511627776 < n) :
    Calls Tryd.prog 25 #[.agg (bv dd).toArray, .int .i64 a, .int .i64 n, .slice p c cap] w fun e w' => e = .returned (.tuple #[.agg (bv (List.replicate 32 0)).toArray, .int .i64 1]) ∧ Below w.heap.size w w' := by
  go_enter Tryd.func25, Tryd.ntmps25
  go_upto_region 1 with (fail)
  generalize hW : World.alloc _ _ = W1
  have D1 := Lib.hid (show Blk W1 w.heap.size (bv dd).toArray 26 by rw [← hW]; exact (Blk.new w _ _).alloc _)
  have T1 := Lib.hid (show Blk W1 (w.heap.size + 1) (bv (List.replicate 32 0)).toArray 26 by rw [← hW]; have := zeros32 (w.alloc (.cells (bv dd).toArray 26)); rw [alloc_sz] at this; exact this)
  have B1 := Lib.hid (show Below w.heap.size w W1 by rw [← hW]; exact ((bel_alloc1 w _).alloc (by simp) _))
  clear hW
  obtain ⟨tb, htb⟩ : ∃ b, w.heap.size = b := ⟨_, rfl⟩
  have hB : w.heap.size ≤ tb := by omega
  have B2 : Hid (Below w.heap.size w W1) := B1
  rw [htb] at T1 D1 ⊢
  clear B1
  have HTB := Lib.hid htb
  clear htb
  have q1 := size32' (List.replicate 32 0) (List.length_replicate ..)
  have q3 := size32 (List.replicate 32 0) (List.length_replicate ..)
  have q4 : W1.there (tb + 1) 0 (bv (List.replicate 32 0)).toArray.size := by have := T1.out.there; simp only [bv_len, List.length_replicate] at this; simp only [List.size_toArray, bv_len, List.length_replicate]; exact this
  have q5 := all_oneCell_toArray (bv_one (List.replicate 32 0))
  go_wp2_with (refine wpList_store_mid rfl 26 (.tmp 8) (.tmp 33) rfl (tb + 1) 0 (bv (List.replicate 32 0)).toArray rfl (congrArg Value.agg zeros_rep) q4 q3 q5 ?_)
  refine bodyPost_ret (v := .tuple #[.agg (bv (List.replicate 32 0)).toArray, .int .i64 1]) (results_cell2 (a := ⟨tb + 1, 0, none⟩) rfl _ rfl rfl (run_loadVar_mid _ (tb + 1) 0 _ (bv (List.replicate 32 0)) _ (T1.out.fill rfl).range Tryd.underlying26 rfl q1)) rfl ⟨rfl, setCells_below (by omega) _ _ B2.out⟩
set_option maxRecDepth 100000 in
set_option maxHeartbeats 2000000 in
theorem rclimb_e3 (a n : Int) (p : Option Addr) (c cap : Nat) (dd : List Int) (w : World) (hdl : Hid (dd.length = 32)) (h1 : ¬ n < 1) (h2 : ¬ 1099511627776 < n) (h3 : a < 0) :
    Calls Tryd.prog 25 #[.agg (bv dd).toArray, .int .i64 a, .int .i64 n, .slice p c cap] w fun e w' => e = .returned (.tuple #[.agg (bv (List.replicate 32 0)).toArray, .int .i64 1]) ∧ Below w.heap.size w w' := by
  go_enter Tryd.func25, Tryd.ntmps25
  go_upto_region 1 with (fail)
  generalize hW : World.alloc _ _ = W1
  have D1 := Lib.hid (show Blk W1 w.heap.size (bv dd).toArray 26 by rw [← hW]; exact (Blk.new w _ _).alloc _)
  have T1 := Lib.hid (show Blk W1 (w.heap.size + 1) (bv (List.replicate 32 0)).toArray 26 by rw [← hW]; have := zeros32 (w.alloc (.cells (bv dd).toArray 26)); rw [alloc_sz] at this; exact this)
  have B1 := Lib.hid (show Below w.heap.size w W1 by rw [← hW]; exact ((bel_alloc1 w _).alloc (by simp) _))
  clear hW
  obtain ⟨tb, htb⟩ : ∃ b, w.heap.size = b := ⟨_, rfl⟩
  have hB : w.heap.size ≤ tb := by omega
  have B2 : Hid (Below w.heap.size w W1) := B1
  rw [htb] at T1 D1 ⊢
  clear B1
  have HTB := Lib.hid htb
  clear htb
  have q1 := size32' (List.replicate 32 0) (List.length_replicate ..)
  have q3 := size32 (List.replicate 32 0) (List.length_replicate ..)
  have q4 : W1.there (tb + 1) 0 (bv (List.replicate 32 0)).toArray.size := by have := T1.out.there; simp only [bv_len, List.length_replicate] at this; simp only [List.size_toArray, bv_len, List.length_replicate]; exact this
  have q5 := all_oneCell_toArray (bv_one (List.replicate 32 0))
  go_wp2_with (refine wpList_store_mid rfl 26 (.tmp 8) (.tmp 33) rfl (tb + 1) 0 (bv (List.replicate 32 0)).toArray rfl (congrArg Value.agg zeros_rep) q4 q3 q5 ?_)
  refine bodyPost_ret (v := .tuple #[.agg (bv (List.replicate 32 0)).toArray, .int .i64 1]) (results_cell2 (a := ⟨tb + 1, 0, none⟩) rfl _ rfl rfl (run_loadVar_mid _ (tb + 1) 0 _ (bv (List.replicate 32 0)) _ (T1.out.fill rfl).range Tryd.underlying26 rfl q1)) rfl ⟨rfl, setCells_below (by omega) _ _ B2.out⟩
set_option maxRecDepth 100000 in
set_option maxHeartbeats 2000000 in
theorem rclimb_e4 (a n : Int) (p : Option Addr) (c cap : Nat) (dd : List Int) (w : World) (hdl : Hid (dd.length = 32)) (h1 : ¬ n < 1) (h2 : ¬ 1099511627776 < n) (h3 : ¬ a < 0) (h4 : n ≤ a) :
    Calls Tryd.prog 25 #[.agg (bv dd).toArray, .int .i64 a, .int .i64 n, .slice p c cap] w fun e w' => e = .returned (.tuple #[.agg (bv (List.replicate 32 0)).toArray, .int .i64 1]) ∧ Below w.heap.size w w' := by
  go_enter Tryd.func25, Tryd.ntmps25
  go_upto_region 1 with (fail)
  generalize hW : World.alloc _ _ = W1
  have D1 := Lib.hid (show Blk W1 w.heap.size (bv dd).toArray 26 by rw [← hW]; exact (Blk.new w _ _).alloc _)
  have T1 := Lib.hid (show Blk W1 (w.heap.size + 1) (bv (List.replicate 32 0)).toArray 26 by rw [← hW]; have := zeros32 (w.alloc (.cells (bv dd).toArray 26)); rw [alloc_sz] at this; exact this)
  have B1 := Lib.hid (show Below w.heap.size w W1 by rw [← hW]; exact ((bel_alloc1 w _).alloc (by simp) _))
  clear hW
  obtain ⟨tb, htb⟩ : ∃ b, w.heap.size = b := ⟨_, rfl⟩
  have hB : w.heap.size ≤ tb := by omega
  have B2 : Hid (Below w.heap.size w W1) := B1
  rw [htb] at T1 D1 ⊢
  clear B1
  have HTB := Lib.hid htb
  clear htb
  have q1 := size32' (List.replicate 32 0) (List.length_replicate ..)
  have q3 := size32 (List.replicate 32 0) (List.length_replicate ..)
  have q4 : W1.there (tb + 1) 0 (bv (List.replicate 32 0)).toArray.size := by have := T1.out.there; simp only [bv_len, List.length_replicate] at this; simp only [List.size_toArray, bv_len, List.length_replicate]; exact this
  have q5 := all_oneCell_toArray (bv_one (List.replicate 32 0))
  go_wp2_with (refine wpList_store_mid rfl 26 (.tmp 8) (.tmp 33) rfl (tb + 1) 0 (bv (List.replicate 32 0)).toArray rfl (congrArg Value.agg zeros_rep) q4 q3 q5 ?_)
  refine bodyPost_ret (v := .tuple #[.agg (bv (List.replicate 32 0)).toArray, .int .i64 1]) (results_cell2 (a := ⟨tb + 1, 0, none⟩) rfl _ rfl rfl (run_loadVar_mid _ (tb + 1) 0 _ (bv (List.replicate 32 0)) _ (T1.out.fill rfl).range Tryd.underlying26 rfl q1)) rfl ⟨rfl, setCells_below (by omega) _ _ B2.out⟩
set_option maxRecDepth 100000 in
set_option maxHeartbeats 2000000 in
theorem rclimb_e5 (a n : Nat) (p : Option Addr) (c cap cc : Nat) (dd : List Int) (w : World) (hdl : Hid (dd.length = 32)) (h1 : 1 ≤ n) (h2 : n ≤ 1099511627776) (h4 : a < n) (hs : Hid (IsSteps a n cc)) (h5 : c ≠ cc) :
    Calls Tryd.prog 25 #[.agg (bv dd).toArray, .int .i64 a, .int .i64 n, .slice p c cap] w fun e w' => e = .returned (.tuple #[.agg (bv (List.replicate 32 0)).toArray, .int .i64 1]) ∧ Below w.heap.size w w' := by
  go_enter Tryd.func25, Tryd.ntmps25
  go_upto_region 1 with (fail)
  generalize hW : World.alloc _ _ = W1
  have D1 := Lib.hid (show Blk W1 w.heap.size (bv dd).toArray 26 by rw [← hW]; exact (Blk.new w _ _).alloc _)
  have T1 := Lib.hid (show Blk W1 (w.heap.size + 1) (bv (List.replicate 32 0)).toArray 26 by rw [← hW]; have := zeros32 (w.alloc (.cells (bv dd).toArray 26)); rw [alloc_sz] at this; exact this)
  have B1 := Lib.hid (show Below w.heap.size w W1 by rw [← hW]; exact ((bel_alloc1 w _).alloc (by simp) _))
  clear hW
  obtain ⟨tb, htb⟩ : ∃ b, w.heap.size = b := ⟨_, rfl⟩
  have hB : w.heap.size ≤ tb := by omega
  have B2 : Hid (Below w.heap.size w W1) := B1
  rw [htb] at T1 D1 ⊢
  clear B1
  have HTB := Lib.hid htb
  clear htb
  have i1 : ¬ (n : Int) < 1 := by omega
  have i2 : ¬ (1099511627776 : Int) < (n : Int) := by omega
  have i3 : ¬ (a : Int) < 0 := by omega
  have i4 : ¬ (n : Int) ≤ (a : Int) := by omega
  have i5 : ((c : Int) == (cc : Int)) = false := by simp; omega
  go_wp2_with fail
  refine (rlength_any hs.out h4 h2 W1).mono ?_; rintro e w' ⟨rfl, rfl⟩
  have q1 := size32' (List.replicate 32 0) (List.length_replicate ..)
  have q3 := size32 (List.replicate 32 0) (List.length_replicate ..)
  have q4 : w'.there (tb + 1) 0 (bv (List.replicate 32 0)).toArray.size := by have := T1.out.there; simp only [bv_len, List.length_replicate] at this; simp only [List.size_toArray, bv_len, List.length_replicate]; exact this
  have q5 := all_oneCell_toArray (bv_one (List.replicate 32 0))
  go_wp2_with (refine wpList_store_mid rfl 26 (.tmp 8) (.tmp 33) rfl (tb + 1) 0 (bv (List.replicate 32 0)).toArray rfl (congrArg Value.agg zeros_rep) q4 q3 q5 ?_)
  refine bodyPost_ret (v := .tuple #[.agg (bv (List.replicate 32 0)).toArray, .int .i64 1]) (results_cell2 (a := ⟨tb + 1, 0, none⟩) rfl _ rfl rfl (run_loadVar_mid _ (tb + 1) 0 _ (bv (List.replicate 32 0)) _ (T1.out.fill rfl).range Tryd.underlying26 rfl q1)) rfl ⟨rfl, setCells_below (by omega) _ _ B2.out⟩
set_option maxRecDepth 100000 in
set_option maxHeartbeats 2000000 in
theorem rclimb_ok (a n : Nat) (p : Option Addr) (c cap : Nat) (ps dd ds : List Int) (w : World) (hz : Hid (SrcD w p c cap ps)) (hr : Hid (∀ z ∈ ps, 0 ≤ z ∧ z ≤ 255)) (hdl : Hid (dd.length = 32)) (hdr : Hid (∀ z ∈ dd, 0 ≤ z ∧ z ≤ 255)) (h1 : 1 ≤ n) (h2 : n ≤ 1099511627776) (h4 : a < n) (hs : Hid (IsSteps a n c)) (hds : Hid (IsClimb a n c ps dd ds)) (hk : Hid (KeysAt w)) :
    Calls Tryd.prog 25 #[.agg (bv dd).toArray, .int .i64 a, .int .i64 n, .slice p c cap] w fun e w' => e = .returned (.tuple #[.agg (bv ds).toArray, .int .i64 0]) ∧ Below w.heap.size w w' := by
  go_enter Tryd.func25, Tryd.ntmps25
  go_upto_region 1 with (fail)
  generalize hW : World.alloc _ _ = W1
  have D1 := Lib.hid (show Blk W1 w.heap.size (bv dd).toArray 26 by rw [← hW]; exact (Blk.new w _ _).alloc _)
  have T1 := Lib.hid (show Blk W1 (w.heap.size + 1) (bv (List.replicate 32 0)).toArray 26 by rw [← hW]; have := zeros32 (w.alloc (.cells (bv dd).toArray 26)); rw [alloc_sz] at this; exact this)
  have B1 := Lib.hid (show Below w.heap.size w W1 by rw [← hW]; exact ((bel_alloc1 w _).alloc (by simp) _))
  clear hW
  obtain ⟨tb, htb⟩ : ∃ b, w.heap.size = b := ⟨_, rfl⟩
  have hB : w.heap.size ≤ tb := by omega
  have B2 : Hid (Below w.heap.size w W1) := B1
  rw [htb] at T1 D1 ⊢
  clear B1
  have HTB := Lib.hid htb
  clear htb
  have i1 : ¬ (n : Int) < 1 := by omega
  have i2 : ¬ (1099511627776 : Int) < (n : Int) := by omega
  have i3 : ¬ (a : Int) < 0 := by omega
  have i4 : ¬ (n : Int) ≤ (a : Int) := by omega
  have HCC := Lib.hid hs.out.le
  go_wp2_with fail
  refine (rlength_any hs.out h4 h2 W1).mono ?_; rintro e w' ⟨rfl, rfl⟩
  have u26 := Tryd.underlying26
  have qd := size32' dd hdl.out
  go_wp2_with (refine wpList_load_mid rfl 26 (.tmp 4) rfl tb 0 rfl (bv dd) _ D1.out.range u26 rfl qd ?_)
  refine (rclimb_any n a c ps dd ds hds.out h4 p cap w' (Lib.hid (hz.out.below B2.out)) hr hdl hdr h2 (by have := HCC.out; omega) (Lib.hid (hk.out.below B2.out))).mono ?_
  rintro e w6 ⟨rfl, hb6⟩
  have T6 := Lib.hid (T1.out.below hb6 T1.out.lt)
  have B6 := Lib.hid (B2.out.trans (hb6.mono B2.out.size))
  clear hb6 T1 B2 D1 qd
  have hd32 : ds.length = 32 := hds.out.len
  have q1 := size32' ds hd32
  have q3 := size32 ds hd32
  have q4 : w6.there (tb + 1) 0 (bv ds).toArray.size := by have := T6.out.there; simp only [bv_len, List.length_replicate] at this; simp only [List.size_toArray, bv_len, hd32]; exact this
  have q5 := all_oneCell_toArray (bv_one ds)
  have HD := Lib.hid hd32
  clear hd32
  go_wp2_with (refine wpList_store_mid rfl 26 (.tmp 8) (.tmp 38) rfl (tb + 1) 0 (bv ds).toArray rfl rfl q4 q3 q5 ?_)
  refine bodyPost_ret (v := .tuple #[.agg (bv ds).toArray, .int .i64 0]) (results_cell2 (a := ⟨tb + 1, 0, none⟩) rfl _ rfl rfl (run_loadVar_mid _ (tb + 1) 0 _ (bv ds) _ (T6.out.fill (by rw [bv_len, bv_len, List.length_replicate, HD.out])).range Tryd.underlying26 rfl q1)) rfl ⟨rfl, setCells_below (by omega) _ _ B6.out⟩

theorem rclimbTop_any (a n : Int) (p : Option Addr) (c cap : Nat) (ps dd rs : List Int) (code : Int) (w : World) (ht : IsTop a n c ps dd rs code) (hz : Hid (SrcD w p c cap ps)) (hr : Hid (∀ z ∈ ps, 0 ≤ z ∧ z ≤ 255)) (hdl : Hid (dd.length = 32)) (hdr : Hid (∀ z ∈ dd, 0 ≤ z ∧ z ≤ 255)) (hk : Hid (KeysAt w)) :
    Calls Tryd.prog 25 #[.agg (bv dd).toArray, .int .i64 a, .int .i64 n, .slice p c cap] w fun e w' => e = .returned (.tuple #[.agg (bv rs).toArray, .int .i64 code]) ∧ Below w.heap.size w w' := by
  rcases ht with ⟨a', m, rfl, rfl, h4, h2, hs, hc, rfl⟩ | ⟨h, rfl, rfl⟩
  · exact rclimb_ok a' m p c cap ps dd rs w hz hr hdl hdr (by omega) h2 h4 (Lib.hid hs) (Lib.hid hc) hk
  · by_cases h1 : n < 1
    · exact rclimb_e1 a n p c cap dd w hdl h1
    · by_cases h2 : 1099511627776 < n
      · exact rclimb_e2 a n p c cap dd w hdl h1 h2
      · by_cases h3 : a < 0
        · exact rclimb_e3 a n p c cap dd w hdl h1 h2 h3
        · by_cases h4 : n ≤ a
          · exact rclimb_e4 a n p c cap dd w hdl h1 h2 h3 h4
          · rcases h with h | h | h | h | ⟨a', m, cc, rfl, rfl, h5, h6, hs, hne⟩
            · omega
            · omega
            · omega
            · omega
            · exact rclimb_e5 a' m p c cap cc dd w hdl (by omega) h6 h5 (Lib.hid hs) hne
end Go.Proofs.YtmheblpgofeafaaDoor
