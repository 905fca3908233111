/- The digest to which a path leads: digest.climb. -/
import Derived.Test.YtmheblpgofeafaaDoorDigSteps
namespace Go.Proofs.YtmheblpgofeafaaDoor
open Go.RowKit
set_option linter.unusedVariables false
set_option linter.unusedSimpArgs false

/-- the digest to which a path of c digests leads, from the element dd, which is number at' of n -/
inductive IsClimb : Nat → Nat → Nat → List Int → List Int → List Int → Prop
  | one (at' : Nat) (dd ds : List Int) : IsTag (strL sLeaf) dd ds → IsClimb at' 1 0 [] dd ds
  | left (at' n k c : Nat) (ps dd l ds : List Int) : 1 < n → k = spN n → at' < k → ps.length = 32 * (c + 1) → IsClimb at' k c (ps.take (32 * c)) dd l → IsTag (strL sNode) (l ++ ps.drop (32 * c)) ds → IsClimb at' n (c + 1) ps dd ds
  | right (at' n k c : Nat) (ps dd l ds : List Int) : 1 < n → k = spN n → k ≤ at' → ps.length = 32 * (c + 1) → IsClimb (at' - k) (n - k) c (ps.take (32 * c)) dd l → IsTag (strL sNode) (ps.drop (32 * c) ++ l) ds → IsClimb at' n (c + 1) ps dd ds
theorem IsClimb.len {at' n c : Nat} {ps dd ds : List Int} (h : IsClimb at' n c ps dd ds) : ds.length = 32 := by
  cases h with
  | one _ _ _ h => exact h.len
  | left _ _ _ _ _ _ _ _ _ _ _ _ _ h => exact h.len
  | right _ _ _ _ _ _ _ _ _ _ _ _ _ h => exact h.len
theorem IsClimb.rng {at' n c : Nat} {ps dd ds : List Int} (h : IsClimb at' n c ps dd ds) : ∀ z ∈ ds, 0 ≤ z ∧ z ≤ 255 := by
  cases h with
  | one _ _ _ h => exact h.rng
  | left _ _ _ _ _ _ _ _ _ _ _ _ _ h => exact h.rng
  | right _ _ _ _ _ _ _ _ _ _ _ _ _ h => exact h.rng
theorem isClimb_ex {at' n c : Nat} (h : IsSteps at' n c) : at' < n → ∀ ps dd : List Int, ps.length = 32 * c → ∃ ds, IsClimb at' n c ps dd ds := by
  induction h with
  | done a n h =>
    intro h0 ps dd hl
    obtain rfl : n = 1 := by omega
    obtain rfl : ps = [] := List.eq_nil_of_length_eq_zero (by omega)
    obtain ⟨ds, hd⟩ := isTag_ex (strL sLeaf) dd
    exact ⟨ds, .one a dd ds hd⟩
  | left a n k c h1 h2 h3 _ ih =>
    intro h0 ps dd hl
    obtain ⟨l, hl'⟩ := ih h3 (ps.take (32 * c)) dd (by rw [List.length_take]; omega)
    obtain ⟨ds, hd⟩ := isTag_ex (strL sNode) (l ++ ps.drop (32 * c))
    exact ⟨ds, .left a n k c ps dd l ds h1 h2 h3 hl hl' hd⟩
  | right a n k c h1 h2 h3 _ ih =>
    intro h0 ps dd hl
    have := spN_lt h1
    obtain ⟨l, hl'⟩ := ih (by omega) (ps.take (32 * c)) dd (by rw [List.length_take]; omega)
    obtain ⟨ds, hd⟩ := isTag_ex (strL sNode) (ps.drop (32 * c) ++ l)
    exact ⟨ds, .right a n k c ps dd l ds h1 h2 h3 hl hl' hd⟩
theorem bel_range {n b off : Nat} {w w' : World} {cs : List Value} (k : Below n w w') (h : w.rangeAt b off cs) (hb : b < n) : w'.rangeAt b off cs := fun j v hv => (k.cell (p := ⟨b, off + j, none⟩) hb).trans (h j v hv)
/-- a row of digests, read -/
theorem range_row {w : World} {b off : Nat} {zs : List Int} (h : BytesAt w b off zs) : w.rangeAt b off (bv zs) := fun j v hv => by
  have hj : j < zs.length := by
    have := (List.getElem?_eq_some_iff.1 hv).1
    rwa [bv_len] at this
  have h2 := bv_get zs j hj
  rw [List.getElem?_toArray, hv] at h2
  rw [h j hj]; exact h2.symm

set_option maxRecDepth 100000 in
set_option maxHeartbeats 2000000 in
theorem climb_one (at' : Nat) (p : Option Addr) (cap : Nat) (dd ds : List Int) (w : World) (hl : Hid (dd.length = 32)) (rd : Hid (∀ z ∈ dd, 0 ≤ z ∧ z ≤ 255)) (hk : Hid (KeysAt w)) (hds : Hid (IsTag (strL sLeaf) dd ds)) :
    Calls Tryd.prog 49 #[.agg (bv dd).toArray, .int .i64 at', .int .i64 1, .slice p 0 cap] w fun e w' => e = .returned (.agg (bv ds).toArray) ∧ Below w.heap.size w w' := by
  go_enter Tryd.func49, Tryd.ntmps49
  go_upto_region 1 with (fail)
  generalize hW : World.alloc _ _ = W1
  have D1 := Lib.hid (show Blk W1 w.heap.size (bv dd).toArray 26 by rw [← hW]; exact (Blk.new w _ _).alloc _)
  have T1 := Lib.hid (show Blk W1 (w.heap.size + 1) (bv (List.replicate 32 0)).toArray 26 by rw [← hW]; have := zeros32 (w.alloc (.cells (bv dd).toArray 26)); rw [alloc_sz] at this; exact this)
  have B1 := Lib.hid (show Below w.heap.size w W1 by rw [← hW]; exact ((bel_alloc1 w _).alloc (by simp) _))
  clear hW
  obtain ⟨tb, htb⟩ : ∃ b, w.heap.size = b := ⟨_, rfl⟩
  have hB : w.heap.size ≤ tb := by omega
  have B2 : Hid (Below w.heap.size w W1) := B1
  rw [htb] at T1 D1 ⊢
  clear B1
  have HTB := Lib.hid htb
  clear htb
  obtain ⟨ts, hts, hss⟩ := hds.out
  go_wp2_with fail
  refine (tagged_any sLeaf (some ⟨tb, 0, none⟩) 32 32 dd W1 (Lib.hid (.inl ⟨hl.out.symm, .inr ⟨tb, 0, rfl, D1.out.lt, bytes_run D1.out⟩⟩)) rd (by decide) (by decide) (Lib.hid (hk.out.below B2.out)) ts ds (Lib.hid hts) (Lib.hid hss)).mono ?_
  rintro e w6 ⟨rfl, hb6⟩
  have T6 := Lib.hid (T1.out.below hb6 T1.out.lt)
  have B6 := Lib.hid (B2.out.trans (hb6.mono B2.out.size))
  clear hb6 T1 B2
  have hd32 : ds.length = 32 := hds.out.len
  have q1 := size32' ds hd32
  have q3 := size32 ds hd32
  have q4 : w6.there (tb + 1) 0 (bv ds).toArray.size := by have := T6.out.there; simp only [bv_len, List.length_replicate] at this; simp only [List.size_toArray, bv_len, hd32]; exact this
  have q5 := all_oneCell_toArray (bv_one ds)
  have HD := Lib.hid hd32
  clear hd32
  go_wp2_with (refine wpList_store_mid rfl 26 _ _ rfl (tb + 1) 0 (bv ds).toArray rfl rfl q4 q3 q5 ?_)
  refine bodyPost_ret (v := .agg (bv ds).toArray) (results_cell1 (a := ⟨(tb + 1), 0, none⟩) rfl _ rfl (run_loadVar_mid _ (tb + 1) 0 _ (bv ds) _ (T6.out.fill (by rw [bv_len, bv_len, List.length_replicate, HD.out])).range Tryd.underlying26 rfl q1)) rfl ⟨rfl, setCells_below (by omega) _ _ B6.out⟩

set_option maxRecDepth 100000 in
set_option maxHeartbeats 2000000 in
theorem climb_left (at' n k c b off cap : Nat) (ps dd l ds : List Int) (w : World) (hz : Hid (BytesAt w b off ps)) (hb : b < w.heap.size) (hps : Hid (ps.length = 32 * (c + 1))) (rp : Hid (∀ z ∈ ps, 0 ≤ z ∧ z ≤ 255)) (hl : Hid (dd.length = 32)) (hn : 1 < n) (hn2 : n ≤ 1099511627776) (hc : c + 1 ≤ cap) (hm : cap ≤ 9223372036854775807) (hc2 : c ≤ 4611686018427387904) (hkn : Hid (k = spN n)) (hk0 : 0 < k) (hk1 : k < n)
    (hk : Hid (KeysAt w)) (hdl : Hid (l.length = 32)) (hrl : Hid (∀ z ∈ l, 0 ≤ z ∧ z ≤ 255)) (hak : at' < k) (hds : Hid (IsTag (strL sNode) (l ++ ps.drop (32 * c)) ds))
    (IA : ∀ u : World, Below w.heap.size w u → Calls Tryd.prog 49 #[.agg (bv dd).toArray, .int .i64 at', .int .i64 k, .slice (some ⟨b, off, none⟩) c cap] u fun e w' => e = .returned (.agg (bv l).toArray) ∧ Below u.heap.size u w') :
    Calls Tryd.prog 49 #[.agg (bv dd).toArray, .int .i64 at', .int .i64 n, .slice (some ⟨b, off, none⟩) ((c + 1 : Nat)) cap] w fun e w' => e = .returned (.agg (bv ds).toArray) ∧ Below w.heap.size w w' := by
  go_enter Tryd.func49, Tryd.ntmps49
  go_upto_region 1 with (fail)
  generalize hW : World.alloc _ _ = W1
  have D1 := Lib.hid (show Blk W1 w.heap.size (bv dd).toArray 26 by rw [← hW]; exact (Blk.new w _ _).alloc _)
  have T1 := Lib.hid (show Blk W1 (w.heap.size + 1) (bv (List.replicate 32 0)).toArray 26 by rw [← hW]; have := zeros32 (w.alloc (.cells (bv dd).toArray 26)); rw [alloc_sz] at this; exact this)
  have B1 := Lib.hid (show Below w.heap.size w W1 by rw [← hW]; exact ((bel_alloc1 w _).alloc (by simp) _))
  clear hW
  obtain ⟨tb, htb⟩ : ∃ b, w.heap.size = b := ⟨_, rfl⟩
  have hB : w.heap.size ≤ tb := by omega
  have B2 : Hid (Below w.heap.size w W1) := B1
  rw [htb] at T1 D1 ⊢
  clear B1
  have HTB := Lib.hid htb
  clear htb
  have t1 : ¬ ((n : Int) = 1) := by omega
  go_wp2_with fail
  refine (split_any n W1 hn (by omega)).mono ?_; rintro e w' ⟨rfl, rfl⟩
  rw [← hkn.out]
  have i8 : ((c + 1 : Nat) : Int) - 1 = (c : Int) := by omega
  go_upto_region 5 with (fail)
  clear i8
  have s0 : (c : Int) ≤ (cap : Int) := by omega
  have s1 : (c : Int) < ((c : Int) + 1) := by omega
  have s3 : (c : Int) ≤ ((c : Int) + 1) := by omega
  have HD5 := Lib.hid (show w'.rangeAt b (off + c * 32) (bv (ps.drop (32 * c))) by rw [Nat.mul_comm c 32]; exact range_row ((hz.out.below B2.out hb).drop (32 * c)))
  have qd := size32' dd hl.out
  have hpl : (ps.drop (32 * c)).length = 32 := by rw [List.length_drop]; have := hps.out; omega
  have qp := size32' (ps.drop (32 * c)) hpl
  have HPL := Lib.hid hpl
  have HRP := Lib.hid (show ∀ z ∈ ps.drop (32 * c), 0 ≤ z ∧ z ≤ 255 from fun z hz => rp.out z (List.mem_of_mem_drop hz))
  have HZ := Lib.hid (hz.out.below B2.out hb)
  have hb1 : b < w'.heap.size := Nat.lt_of_lt_of_le hb B2.out.size
  clear hpl
  have u26 := Tryd.underlying26
  refine wp_region_quiet_tail_in (C := fun u => Below w'.heap.size w' u) 12 (by kernel_rfl) (by kernel_rfl) (Below.refl _ _).drew ?_
  simp only [List.take_succ_cons, List.take_zero, List.drop_succ_cons, List.drop_zero]
  refine quiet_load rfl 26 (.tmp 4) rfl tb 0 rfl (bv dd) _ (fun u hu => (D1.out.below hu D1.out.lt).range) u26 rfl qd ?_
  iterate 5 (quiet_step ((intro _; rfl)))
  refine quiet_call rfl 49 _ _ rfl #[.agg (bv dd).toArray, .int .i64 at', .int .i64 k, .slice (some ⟨b, off, none⟩) c cap] (by simp [Act.eval]) (fun u => by go_simp) (.agg (bv l).toArray) (fun u hu => (IA u (B2.out.trans (hu.mono B2.out.size))).mono fun e u' ⟨he, hb⟩ => ⟨he, hu.trans (hb.mono hu.size)⟩) ?_
  iterate 3 (quiet_step ((intro _; rfl)))
  refine quiet_load rfl 26 (.tmp 32) rfl b (off + c * 32) rfl (bv (ps.drop (32 * c))) _ (fun u hu => bel_range hu HD5.out hb1) u26 rfl qp ?_
  refine quiet_call rfl 43 _ _ rfl #[.string sNode, .agg (bv l).toArray, .agg (bv (ps.drop (32 * c))).toArray] (by simp [Act.eval, Act.put]) (fun u => by go_simp) (.agg (bv ds).toArray) (fun u hu => (both_any sNode l _ ds u hdl HPL hrl HRP (by decide) (Lib.hid (hk.out.below (B2.out.trans (hu.mono B2.out.size)))) hds).mono fun e u' ⟨he, hb⟩ => ⟨he, hu.trans (hb.mono hu.size)⟩) ?_
  refine wpQuiet_nil ?_
  intro w6 hb6
  have T6 := Lib.hid (T1.out.below hb6 T1.out.lt)
  have B6 := Lib.hid (B2.out.trans (hb6.mono B2.out.size))
  clear hb6 T1 B2
  have hd32 : ds.length = 32 := hds.out.len
  have q1 := size32' ds hd32
  have q3 := size32 ds hd32
  have q4 : w6.there (tb + 1) 0 (bv ds).toArray.size := by have := T6.out.there; simp only [bv_len, List.length_replicate] at this; simp only [List.size_toArray, bv_len, hd32]; exact this
  have q5 := all_oneCell_toArray (bv_one ds)
  have HD := Lib.hid hd32
  clear hd32
  refine wpList_store_mid rfl 26 (.tmp 8) (.tmp 34) rfl (tb + 1) 0 (bv ds).toArray rfl rfl q4 q3 q5 ?_
  go_wp2_with fail
  refine bodyPost_ret (v := .agg (bv ds).toArray) (results_cell1 (a := ⟨(tb + 1), 0, none⟩) rfl _ rfl (run_loadVar_mid _ (tb + 1) 0 _ (bv ds) _ (T6.out.fill (by rw [bv_len, bv_len, List.length_replicate, HD.out])).range Tryd.underlying26 rfl q1)) rfl ⟨rfl, setCells_below (by omega) _ _ B6.out⟩

set_option maxRecDepth 100000 in
set_option maxHeartbeats 2000000 in
theorem climb_right (at' n k c b off cap : Nat) (ps dd l ds : List Int) (w : World) (hz : Hid (BytesAt w b off ps)) (hb : b < w.heap.size) (hps : Hid (ps.length = 32 * (c + 1))) (rp : Hid (∀ z ∈ ps, 0 ≤ z ∧ z ≤ 255)) (hl : Hid (dd.length = 32)) (hn : 1 < n) (hn2 : n ≤ 1099511627776) (hc : c + 1 ≤ cap) (hm : cap ≤ 9223372036854775807) (hc2 : c ≤ 4611686018427387904) (hkn : Hid (k = spN n)) (hk0 : 0 < k) (hk1 : k < n)
    (hk : Hid (KeysAt w)) (hdl : Hid (l.length = 32)) (hrl : Hid (∀ z ∈ l, 0 ≤ z ∧ z ≤ 255)) (hak : k ≤ at') (han : at' < n) (hds : Hid (IsTag (strL sNode) (ps.drop (32 * c) ++ l) ds))
    (IA : ∀ u : World, Below w.heap.size w u → Calls Tryd.prog 49 #[.agg (bv dd).toArray, .int .i64 (at' - k : Nat), .int .i64 (n - k : Nat), .slice (some ⟨b, off, none⟩) c cap] u fun e w' => e = .returned (.agg (bv l).toArray) ∧ Below u.heap.size u w') :
    Calls Tryd.prog 49 #[.agg (bv dd).toArray, .int .i64 at', .int .i64 n, .slice (some ⟨b, off, none⟩) ((c + 1 : Nat)) cap] w fun e w' => e = .returned (.agg (bv ds).toArray) ∧ Below w.heap.size w w' := by
  go_enter Tryd.func49, Tryd.ntmps49
  go_upto_region 1 with (fail)
  generalize hW : World.alloc _ _ = W1
  have D1 := Lib.hid (show Blk W1 w.heap.size (bv dd).toArray 26 by rw [← hW]; exact (Blk.new w _ _).alloc _)
  have T1 := Lib.hid (show Blk W1 (w.heap.size + 1) (bv (List.replicate 32 0)).toArray 26 by rw [← hW]; have := zeros32 (w.alloc (.cells (bv dd).toArray 26)); rw [alloc_sz] at this; exact this)
  have B1 := Lib.hid (show Below w.heap.size w W1 by rw [← hW]; exact ((bel_alloc1 w _).alloc (by simp) _))
  clear hW
  obtain ⟨tb, htb⟩ : ∃ b, w.heap.size = b := ⟨_, rfl⟩
  have hB : w.heap.size ≤ tb := by omega
  have B2 : Hid (Below w.heap.size w W1) := B1
  rw [htb] at T1 D1 ⊢
  clear B1
  have HTB := Lib.hid htb
  clear htb
  have t1 : ¬ ((n : Int) = 1) := by omega
  go_wp2_with fail
  refine (split_any n W1 hn (by omega)).mono ?_; rintro e w' ⟨rfl, rfl⟩
  rw [← hkn.out]
  have i8 : ((c + 1 : Nat) : Int) - 1 = (c : Int) := by omega
  go_upto_region 6 with (fail)
  clear i8
  have s0 : (c : Int) ≤ (cap : Int) := by omega
  have s1 : (c : Int) < ((c : Int) + 1) := by omega
  have s3 : (c : Int) ≤ ((c : Int) + 1) := by omega
  have HD5 := Lib.hid (show w'.rangeAt b (off + c * 32) (bv (ps.drop (32 * c))) by rw [Nat.mul_comm c 32]; exact range_row ((hz.out.below B2.out hb).drop (32 * c)))
  have qd := size32' dd hl.out
  have hpl : (ps.drop (32 * c)).length = 32 := by rw [List.length_drop]; have := hps.out; omega
  have qp := size32' (ps.drop (32 * c)) hpl
  have HPL := Lib.hid hpl
  have HRP := Lib.hid (show ∀ z ∈ ps.drop (32 * c), 0 ≤ z ∧ z ≤ 255 from fun z hz => rp.out z (List.mem_of_mem_drop hz))
  have HZ := Lib.hid (hz.out.below B2.out hb)
  have hb1 : b < w'.heap.size := Nat.lt_of_lt_of_le hb B2.out.size
  clear hpl
  have wA : IntKind.i64.wrap ((at' : Int) - (k : Int)) = ((at' - k : Nat) : Int) := by rw [IntKind.wrap_i64]; omega
  have wN : IntKind.i64.wrap ((n : Int) - (k : Int)) = ((n - k : Nat) : Int) := by rw [IntKind.wrap_i64]; omega
  have u26 := Tryd.underlying26
  refine wp_region_quiet_tail_in (C := fun u => Below w'.heap.size w' u) 16 (by kernel_rfl) (by kernel_rfl) (Below.refl _ _).drew ?_
  simp only [List.take_succ_cons, List.take_zero, List.drop_succ_cons, List.drop_zero]
  iterate 3 (quiet_step ((intro _; rfl)))
  refine quiet_load rfl 26 (.tmp 37) rfl b (off + c * 32) rfl (bv (ps.drop (32 * c))) _ (fun u hu => bel_range hu HD5.out hb1) u26 rfl qp ?_
  refine quiet_load rfl 26 (.tmp 4) rfl tb 0 rfl (bv dd) _ (fun u hu => (D1.out.below hu D1.out.lt).range) u26 rfl qd ?_
  iterate 9 (quiet_step ((intro _; rfl)))
  refine quiet_call rfl 49 _ _ rfl #[.agg (bv dd).toArray, .int .i64 (at' - k : Nat), .int .i64 (n - k : Nat), .slice (some ⟨b, off, none⟩) c cap] (by simp [Act.eval, Act.put]) (fun u => by go_simp) (.agg (bv l).toArray) (fun u hu => (IA u (B2.out.trans (hu.mono B2.out.size))).mono fun e u' ⟨he, hb⟩ => ⟨he, hu.trans (hb.mono hu.size)⟩) ?_
  refine quiet_call rfl 43 _ _ rfl #[.string sNode, .agg (bv (ps.drop (32 * c))).toArray, .agg (bv l).toArray] (by simp [Act.eval, Act.put]) (fun u => by go_simp) (.agg (bv ds).toArray) (fun u hu => (both_any sNode _ l ds u HPL hdl HRP hrl (by decide) (Lib.hid (hk.out.below (B2.out.trans (hu.mono B2.out.size)))) hds).mono fun e u' ⟨he, hb⟩ => ⟨he, hu.trans (hb.mono hu.size)⟩) ?_
  refine wpQuiet_nil ?_
  intro w6 hb6
  have T6 := Lib.hid (T1.out.below hb6 T1.out.lt)
  have B6 := Lib.hid (B2.out.trans (hb6.mono B2.out.size))
  clear hb6 T1 B2
  have hd32 : ds.length = 32 := hds.out.len
  have q1 := size32' ds hd32
  have q3 := size32 ds hd32
  have q4 : w6.there (tb + 1) 0 (bv ds).toArray.size := by have := T6.out.there; simp only [bv_len, List.length_replicate] at this; simp only [List.size_toArray, bv_len, hd32]; exact this
  have q5 := all_oneCell_toArray (bv_one ds)
  have HD := Lib.hid hd32
  clear hd32
  refine wpList_store_mid rfl 26 (.tmp 8) (.tmp 50) rfl (tb + 1) 0 (bv ds).toArray rfl rfl q4 q3 q5 ?_
  go_wp2_with fail
  refine bodyPost_ret (v := .agg (bv ds).toArray) (results_cell1 (a := ⟨(tb + 1), 0, none⟩) rfl _ rfl (run_loadVar_mid _ (tb + 1) 0 _ (bv ds) _ (T6.out.fill (by rw [bv_len, bv_len, List.length_replicate, HD.out])).range Tryd.underlying26 rfl q1)) rfl ⟨rfl, setCells_below (by omega) _ _ B6.out⟩

/-- the digest to which a path leads -/
theorem climb_any (n : Nat) : ∀ (at' c : Nat) (ps dd ds : List Int), IsClimb at' n c ps dd ds → at' < n → ∀ (p : Option Addr) (cap : Nat) (w : World), Hid (SrcD w p c cap ps) → Hid (∀ z ∈ ps, 0 ≤ z ∧ z ≤ 255) → Hid (dd.length = 32) → Hid (∀ z ∈ dd, 0 ≤ z ∧ z ≤ 255) → n ≤ 1099511627776 → c ≤ 4611686018427387904 → Hid (KeysAt w) →
    Calls Tryd.prog 49 #[.agg (bv dd).toArray, .int .i64 at', .int .i64 n, .slice p c cap] w fun e w' => e = .returned (.agg (bv ds).toArray) ∧ Below w.heap.size w w' := by
  have hml : maxLen ≤ 9223372036854775807 := by decide
  induction n using Nat.strongRecOn with
  | _ n ih =>
    intro at' c ps dd ds ht hat p cap w hz hr hdl hdr hn hcc hk
    obtain ⟨hl, hc, hm, hp⟩ := hz.out
    cases ht with
    | one _ _ _ h => exact climb_one at' p cap dd ds w hdl hdr hk (Lib.hid h)
    | left _ _ k c _ _ l _ h1 hk2 h3 h4 h5 h6 =>
      obtain ⟨h2, _⟩ | ⟨b, off, rfl, hb, hz1⟩ := hp
      · omega
      · have k0 : 0 < k := by rw [hk2]; exact spN_pos n
        have k1 : k < n := by rw [hk2]; exact spN_lt h1
        refine climb_left at' n k c b off cap ps dd l ds w (Lib.hid hz1) hb (Lib.hid h4) hr hdl h1 hn hc (by omega) (by omega) (Lib.hid hk2) k0 k1 hk (Lib.hid h5.len) (Lib.hid h5.rng) h3 (Lib.hid h6) ?_
        intro u hu
        exact ih k k1 at' c _ dd l h5 h3 _ _ u (Lib.hid ⟨by rw [List.length_take]; omega, by omega, hm, .inr ⟨b, off, rfl, Nat.lt_of_lt_of_le hb hu.size, (hz1.below hu hb).take _⟩⟩) (Lib.hid fun z hz => hr.out z (List.mem_of_mem_take hz)) hdl hdr (by omega) (by omega) (Lib.hid (hk.out.below hu))
    | right _ _ k c _ _ l _ h1 hk2 h3 h4 h5 h6 =>
      obtain ⟨h2, _⟩ | ⟨b, off, rfl, hb, hz1⟩ := hp
      · omega
      · have k0 : 0 < k := by rw [hk2]; exact spN_pos n
        have k1 : k < n := by rw [hk2]; exact spN_lt h1
        refine climb_right at' n k c b off cap ps dd l ds w (Lib.hid hz1) hb (Lib.hid h4) hr hdl h1 hn hc (by omega) (by omega) (Lib.hid hk2) k0 k1 hk (Lib.hid h5.len) (Lib.hid h5.rng) h3 hat (Lib.hid h6) ?_
        intro u hu
        exact ih (n - k) (by omega) (at' - k) c _ dd l h5 (by omega) _ _ u (Lib.hid ⟨by rw [List.length_take]; omega, by omega, hm, .inr ⟨b, off, rfl, Nat.lt_of_lt_of_le hb hu.size, (hz1.below hu hb).take _⟩⟩) (Lib.hid fun z hz => hr.out z (List.mem_of_mem_take hz)) hdl hdr (by omega) (by omega) (Lib.hid (hk.out.below hu))
end Go.Proofs.YtmheblpgofeafaaDoor
