/- The reference: cipher, Make. -/
import Derived.Test.YtcedmiojmepioaaGreatDoorOntRf1
import Derived.Test.YtcedmiojmepioaaGreatDoorRefElm
namespace Go.Proofs.YtcedmiojmepioaaGreatDoor
open Go.RowKit
set_option linter.unusedVariables false
set_option linter.unusedSimpArgs false

theorem rPow_c (a n x : Int) (w : World) (h : Hid (powZ a n = x)) : Calls Tryz.prog 45 #[.int .i64 a, .int .i64 n] w fun e w' => e = .returned (.tuple #[.int .i64 x, .int .i64 (powE a)]) ∧ w = w' := by
  rw [← h.out]; exact rPow_any a n w
theorem rMul_c (a b x : Int) (w : World) (h : Hid (mulZ a b = x)) : Calls Tryz.prog 30 #[.int .i64 a, .int .i64 b] w fun e w' => e = .returned (.tuple #[.int .i64 x, .int .i64 (mulE a b)]) ∧ w = w' := by
  rw [← h.out]; exact rMul_any a b w
theorem relm_ok (n x : Int) (w : World) (hr : Hid (-9223372036854775808 ≤ n ∧ n ≤ 9223372036854775807)) (hw : Hid (wordB n = true)) (hx : Hid (elmZ n = x)) : Calls Tryz.prog 27 #[.int .i64 n] w fun e w' => e = .returned (.tuple #[.int .i64 x, .int .i64 0]) ∧ w = w' := by
  have := relm_any n w hr.out
  rwa [hx.out, show elmE n = 0 by unfold elmE; rw [if_pos (wordB_iff.1 hw.out)]] at this
theorem relm_no (n : Int) (w : World) (hr : Hid (-9223372036854775808 ≤ n ∧ n ≤ 9223372036854775807)) (hw : Hid (wordB n = false)) : Calls Tryz.prog 27 #[.int .i64 n] w fun e w' => e = .returned (.tuple #[.int .i64 0, .int .i64 1]) ∧ w = w' := by
  have := relm_any n w hr.out
  have hn : ¬ (1 ≤ n ∧ n ≤ 1073741789) := fun h => by rw [wordB_iff.2 h] at hw; exact absurd hw.out (by simp)
  rwa [show elmZ n = 0 by unfold elmZ; rw [if_neg hn], show elmE n = 1 by unfold elmE; rw [if_neg hn]] at this
set_option maxRecDepth 100000 in
set_option maxHeartbeats 2000000 in
theorem rcipher_is (key x r a b : Int) (w : World) (h : Hid (IsCip key x r a b)) :
    Calls Tryz.prog 28 #[.int .i64 key, .int .i64 x, .int .i64 r] w fun e w' => e = .returned (.agg #[.int .i64 a, .int .i64 b]) ∧ Below w.heap.size w w' := by
  obtain ⟨q, hq⟩ : ∃ q, powZ key r = q := ⟨_, rfl⟩
  have HQ := Lib.hid hq
  have HA := Lib.hid h.out.ha
  have HM := Lib.hid (show mulZ x q = b by rw [← hq]; exact h.out.hb)
  clear hq
  go_enter Tryz.func28, Tryz.ntmps28
  go_wp2_with (first
    | (go_at_call 45; with_reducible refine (rPow_c 4 r a _ HA).mono ?_; rintro e w' ⟨rfl, rfl⟩)
    | (go_at_call 45; with_reducible refine (rPow_c key r q _ HQ).mono ?_; rintro e w' ⟨rfl, rfl⟩)
    | (go_at_call 30; with_reducible refine (rMul_c x q b _ HM).mono ?_; rintro e w' ⟨rfl, rfl⟩))
  refine bodyPost_ret (v := .agg #[.int .i64 a, .int .i64 b]) (by simp [results, Tryz.results28, go_sem]) rfl ⟨rfl, ?_⟩
  repeat refine Below.setCell ?_ (by simp) _
  exact bel_alloc1 w _
set_option maxRecDepth 100000 in
set_option maxHeartbeats 4000000 in
theorem rmake_neg (line key alias r : Int) (w : World) (ln : Hid (line < 0)) :
    Calls Tryz.prog 9 #[.int .i64 line, .int .i64 key, .int .i64 alias, .int .i64 r] w fun e w' => e = .returned (.tuple #[.agg (rtv 0 0 0 0 (List.replicate 32 0)).toArray, .int .i64 160]) ∧ Below w.heap.size w w' := by
  have t1 : line < 0 := by have := ln.out; omega
  have X0 := Lib.hid (RBlk.new w)
  have B0 := Lib.hid (bel_alloc1 w (.cells #[.int .i64 0, .int .i64 0, .int .i64 0, .int .i64 0, .int .u8 0, .int .u8 0, .int .u8 0, .int .u8 0, .int .u8 0, .int .u8 0, .int .u8 0, .int .u8 0, .int .u8 0, .int .u8 0, .int .u8 0, .int .u8 0, .int .u8 0, .int .u8 0, .int .u8 0, .int .u8 0, .int .u8 0, .int .u8 0, .int .u8 0, .int .u8 0, .int .u8 0, .int .u8 0, .int .u8 0, .int .u8 0, .int .u8 0, .int .u8 0, .int .u8 0, .int .u8 0, .int .u8 0, .int .u8 0, .int .u8 0, .int .u8 0] 27))
  go_enter Tryz.func9, Tryz.ntmps9
  go_upto_region 1 with fail
  generalize World.alloc w _ = W0 at X0 B0 ⊢
  go_wp2_with (first
    | (refine list_storeR rfl (.tmp 8) (.tmp 19) rfl w.heap.size rfl 0 0 0 0 (List.replicate 32 0) rfl rfl 0 0 0 0 (List.replicate 32 0) X0.out ?_))
  intro w1 q1 k1
  have X1 := Lib.hid q1
  have B1 := Lib.hid (B0.out.trans (k1.below (by omega)))
  clear q1 k1
  go_wp2_with fail
  refine bodyPost_ret (v := .tuple #[.agg (rtv 0 0 0 0 (List.replicate 32 0)).toArray, .int .i64 160]) (results_cell_tmp (a := ⟨w.heap.size, 0, none⟩) Tryz.results9 _ rfl (load_ret X1.out)) rfl ⟨rfl, B1.out⟩
set_option maxRecDepth 100000 in
set_option maxHeartbeats 4000000 in
theorem rmake_big (line key alias r : Int) (w : World) (ln : Hid (64 ≤ line)) :
    Calls Tryz.prog 9 #[.int .i64 line, .int .i64 key, .int .i64 alias, .int .i64 r] w fun e w' => e = .returned (.tuple #[.agg (rtv 0 0 0 0 (List.replicate 32 0)).toArray, .int .i64 160]) ∧ Below w.heap.size w w' := by
  have t1 : ¬ line < 0 := by have := ln.out; omega
  have t3 : line ≥ 64 := by have := ln.out; omega
  have t2 : ¬ line < 64 := by omega
  have X0 := Lib.hid (RBlk.new w)
  have B0 := Lib.hid (bel_alloc1 w (.cells #[.int .i64 0, .int .i64 0, .int .i64 0, .int .i64 0, .int .u8 0, .int .u8 0, .int .u8 0, .int .u8 0, .int .u8 0, .int .u8 0, .int .u8 0, .int .u8 0, .int .u8 0, .int .u8 0, .int .u8 0, .int .u8 0, .int .u8 0, .int .u8 0, .int .u8 0, .int .u8 0, .int .u8 0, .int .u8 0, .int .u8 0, .int .u8 0, .int .u8 0, .int .u8 0, .int .u8 0, .int .u8 0, .int .u8 0, .int .u8 0, .int .u8 0, .int .u8 0, .int .u8 0, .int .u8 0, .int .u8 0, .int .u8 0] 27))
  go_enter Tryz.func9, Tryz.ntmps9
  go_upto_region 1 with fail
  generalize World.alloc w _ = W0 at X0 B0 ⊢
  go_wp2_with (first
    | (refine list_storeR rfl (.tmp 8) (.tmp 19) rfl w.heap.size rfl 0 0 0 0 (List.replicate 32 0) rfl rfl 0 0 0 0 (List.replicate 32 0) X0.out ?_))
  intro w1 q1 k1
  have X1 := Lib.hid q1
  have B1 := Lib.hid (B0.out.trans (k1.below (by omega)))
  clear q1 k1
  go_wp2_with fail
  refine bodyPost_ret (v := .tuple #[.agg (rtv 0 0 0 0 (List.replicate 32 0)).toArray, .int .i64 160]) (results_cell_tmp (a := ⟨w.heap.size, 0, none⟩) Tryz.results9 _ rfl (load_ret X1.out)) rfl ⟨rfl, B1.out⟩
set_option maxRecDepth 100000 in
set_option maxHeartbeats 4000000 in
theorem rmake_key (line key alias r : Int) (w : World) (ln : Hid (0 ≤ line ∧ line < 64)) (hk : Hid (elB key = false)) :
    Calls Tryz.prog 9 #[.int .i64 line, .int .i64 key, .int .i64 alias, .int .i64 r] w fun e w' => e = .returned (.tuple #[.agg (rtv 0 0 0 0 (List.replicate 32 0)).toArray, .int .i64 90]) ∧ Below w.heap.size w w' := by
  have t1 : ¬ line < 0 := by have := ln.out; omega
  have t2 : line < 64 := by have := ln.out; omega
  have t3 : ¬ line ≥ 64 := by omega
  have X0 := Lib.hid (RBlk.new w)
  have B0 := Lib.hid (bel_alloc1 w (.cells #[.int .i64 0, .int .i64 0, .int .i64 0, .int .i64 0, .int .u8 0, .int .u8 0, .int .u8 0, .int .u8 0, .int .u8 0, .int .u8 0, .int .u8 0, .int .u8 0, .int .u8 0, .int .u8 0, .int .u8 0, .int .u8 0, .int .u8 0, .int .u8 0, .int .u8 0, .int .u8 0, .int .u8 0, .int .u8 0, .int .u8 0, .int .u8 0, .int .u8 0, .int .u8 0, .int .u8 0, .int .u8 0, .int .u8 0, .int .u8 0, .int .u8 0, .int .u8 0, .int .u8 0, .int .u8 0, .int .u8 0, .int .u8 0] 27))
  go_enter Tryz.func9, Tryz.ntmps9
  go_upto_region 1 with fail
  generalize World.alloc w _ = W0 at X0 B0 ⊢
  go_wp2_with (first
    | (go_at_call 26; refine (rvalid_any key _).mono ?_; rintro e w' ⟨rfl, rfl⟩; rw [hk.out])
    | (refine list_storeR rfl (.tmp 8) (.tmp 23) rfl w.heap.size rfl 0 0 0 0 (List.replicate 32 0) rfl rfl 0 0 0 0 (List.replicate 32 0) X0.out ?_))
  intro w1 q1 k1
  have X1 := Lib.hid q1
  have B1 := Lib.hid (B0.out.trans (k1.below (by omega)))
  clear q1 k1
  go_wp2_with fail
  refine bodyPost_ret (v := .tuple #[.agg (rtv 0 0 0 0 (List.replicate 32 0)).toArray, .int .i64 90]) (results_cell_tmp (a := ⟨w.heap.size, 0, none⟩) Tryz.results9 _ rfl (load_ret X1.out)) rfl ⟨rfl, B1.out⟩
set_option maxRecDepth 100000 in
set_option maxHeartbeats 4000000 in
theorem rmake_word (line key alias r : Int) (w : World) (ln : Hid (0 ≤ line ∧ line < 64)) (hk : Hid (elB key = true)) (hr : Hid (-9223372036854775808 ≤ alias ∧ alias ≤ 9223372036854775807)) (hw : Hid (wordB alias = false)) :
    Calls Tryz.prog 9 #[.int .i64 line, .int .i64 key, .int .i64 alias, .int .i64 r] w fun e w' => e = .returned (.tuple #[.agg (rtv 0 0 0 0 (List.replicate 32 0)).toArray, .int .i64 160]) ∧ Below w.heap.size w w' := by
  have t1 : ¬ line < 0 := by have := ln.out; omega
  have t2 : line < 64 := by have := ln.out; omega
  have t3 : ¬ line ≥ 64 := by omega
  have X0 := Lib.hid (RBlk.new w)
  have B0 := Lib.hid (bel_alloc1 w (.cells #[.int .i64 0, .int .i64 0, .int .i64 0, .int .i64 0, .int .u8 0, .int .u8 0, .int .u8 0, .int .u8 0, .int .u8 0, .int .u8 0, .int .u8 0, .int .u8 0, .int .u8 0, .int .u8 0, .int .u8 0, .int .u8 0, .int .u8 0, .int .u8 0, .int .u8 0, .int .u8 0, .int .u8 0, .int .u8 0, .int .u8 0, .int .u8 0, .int .u8 0, .int .u8 0, .int .u8 0, .int .u8 0, .int .u8 0, .int .u8 0, .int .u8 0, .int .u8 0, .int .u8 0, .int .u8 0, .int .u8 0, .int .u8 0] 27))
  go_enter Tryz.func9, Tryz.ntmps9
  go_upto_region 1 with fail
  generalize World.alloc w _ = W0 at X0 B0 ⊢
  go_wp2_with (first
    | (go_at_call 26; refine (rvalid_any key _).mono ?_; rintro e w' ⟨rfl, rfl⟩; rw [hk.out])
    | (go_at_call 27; refine (relm_no alias _ hr hw).mono ?_; rintro e w' ⟨rfl, rfl⟩)
    | (refine list_storeR rfl (.tmp 8) (.tmp 31) rfl w.heap.size rfl 0 0 0 0 (List.replicate 32 0) rfl rfl 0 0 0 0 (List.replicate 32 0) X0.out ?_))
  intro w1 q1 k1
  have X1 := Lib.hid q1
  have B1 := Lib.hid (B0.out.trans (k1.below (by omega)))
  clear q1 k1
  go_wp2_with fail
  refine bodyPost_ret (v := .tuple #[.agg (rtv 0 0 0 0 (List.replicate 32 0)).toArray, .int .i64 160]) (results_cell_tmp (a := ⟨w.heap.size, 0, none⟩) Tryz.results9 _ rfl (load_ret X1.out)) rfl ⟨rfl, B1.out⟩
set_option maxRecDepth 100000 in
set_option maxHeartbeats 4000000 in
theorem rmake_ok (line key alias r : Int) (w : World) (ln : Hid (0 ≤ line ∧ line < 64)) (hk : Hid (elB key = true)) (hr : Hid (-9223372036854775808 ≤ alias ∧ alias ≤ 9223372036854775807)) (hw : Hid (wordB alias = true)) (a b : Int) (ds : List Int) (hc : Hid (IsCip key (elmZ alias) r a b)) (hd : Hid (IsTag line key a b ds)) :
    Calls Tryz.prog 9 #[.int .i64 line, .int .i64 key, .int .i64 alias, .int .i64 r] w fun e w' => e = .returned (.tuple #[.agg (rtv line key a b ds).toArray, .int .i64 0]) ∧ Below w.heap.size w w' := by
  obtain ⟨x, hx⟩ : ∃ x, elmZ alias = x := ⟨_, rfl⟩
  have HX := Lib.hid hx
  have HC := Lib.hid (show IsCip key x r a b by rw [← hx]; exact hc.out)
  have hok := Lib.hid (show ∀ x ∈ intsA [line, key, a, b], x.ok by
    obtain ⟨h3, h4⟩ := hc.out.el hk.out (elm_el hw.out)
    exact part_ok (partB_iff.2 ⟨lineB_iff.2 ln.out, hk.out, h3, h4⟩))
  have ld := Lib.hid hd.out.len
  clear hx
  have t1 : ¬ line < 0 := by have := ln.out; omega
  have t2 : line < 64 := by have := ln.out; omega
  have t3 : ¬ line ≥ 64 := by omega
  have X0 := Lib.hid (RBlk.new w)
  have B0 := Lib.hid (bel_alloc1 w (.cells #[.int .i64 0, .int .i64 0, .int .i64 0, .int .i64 0, .int .u8 0, .int .u8 0, .int .u8 0, .int .u8 0, .int .u8 0, .int .u8 0, .int .u8 0, .int .u8 0, .int .u8 0, .int .u8 0, .int .u8 0, .int .u8 0, .int .u8 0, .int .u8 0, .int .u8 0, .int .u8 0, .int .u8 0, .int .u8 0, .int .u8 0, .int .u8 0, .int .u8 0, .int .u8 0, .int .u8 0, .int .u8 0, .int .u8 0, .int .u8 0, .int .u8 0, .int .u8 0, .int .u8 0, .int .u8 0, .int .u8 0, .int .u8 0] 27))
  go_enter Tryz.func9, Tryz.ntmps9
  go_upto_region 1 with fail
  generalize World.alloc w _ = W0 at X0 B0 ⊢
  go_wp2_with (first
    | (go_at_call 26; refine (rvalid_any key _).mono ?_; rintro e w' ⟨rfl, rfl⟩; rw [hk.out])
    | (go_at_call 27; refine (relm_ok alias x _ hr hw HX).mono ?_; rintro e w' ⟨rfl, rfl⟩)
    | (go_at_call 28; refine (rcipher_is key x r a b _ HC).mono ?_; rintro e w1 ⟨rfl, hb⟩; have B1 := Lib.hid (bel_trans B0.out hb); have X1 := Lib.hid (X0.out.bel hb); clear hb)
    | (refine list_storeR rfl (.tmp 12) (.tmp 38) rfl w1.heap.size rfl line key a b (List.replicate 32 0) rfl rfl 0 0 0 0 (List.replicate 32 0) (RBlk.new w1) ?_))
  intro w2 q2 k2
  have K2 := Lib.hid ((bel_alloc1 w1 _).trans (k2.below (Nat.le_refl _)))
  have Y2 := Lib.hid q2
  have B2 := Lib.hid (bel_trans B1.out K2.out)
  have X2 := Lib.hid (X1.out.bel K2.out)
  have lt1 := X1.out.lt
  clear q2 k2 K2
  obtain ⟨yb, hyb⟩ : ∃ q, w1.heap.size = q := ⟨_, rfl⟩
  rw [hyb] at Y2 lt1 ⊢
  clear hyb
  go_wp2_with (first
    | (refine list_loadR (by rfl) (.tmp 12) rfl yb rfl line key a b (List.replicate 32 0) Y2.out ?_)
    | (go_at_call 20; refine (rtag_is line key a b (List.replicate 32 0) _ (Lib.hid rfl) hok ds hd).mono ?_; rintro e w3 ⟨rfl, hb⟩; have B3 := Lib.hid (bel_trans B2.out hb); have X3 := Lib.hid (X2.out.bel hb); have Y3 := Lib.hid (Y2.out.bel hb); clear hb)
    | (refine list_storeTag rfl (.tmp 41) (.tmp 40) rfl yb rfl ds rfl ld.out line key a b (List.replicate 32 0) Y3.out ?_))
  intro w4 q4 k4
  have Y4 := Lib.hid q4
  have X4 := Lib.hid (X3.out.wrote k4 (by omega))
  have B4 := Lib.hid (B3.out.trans (k4.below (by omega)))
  clear q4 k4
  go_wp2_with (first
    | (refine list_loadR (by rfl) (.tmp 12) rfl yb rfl line key a b ds Y4.out ?_)
    | (refine list_storeR rfl (.tmp 8) (.tmp 42) rfl w.heap.size rfl line key a b ds rfl ld.out 0 0 0 0 (List.replicate 32 0) X4.out ?_))
  intro w5 q5 k5
  have X5 := Lib.hid q5
  have B5 := Lib.hid (B4.out.trans (k5.below (by omega)))
  clear q5 k5
  go_wp2_with fail
  refine bodyPost_ret (v := .tuple #[.agg (rtv line key a b ds).toArray, .int .i64 0]) (results_cell_tmp (a := ⟨w.heap.size, 0, none⟩) Tryz.results9 _ rfl (load_ret X5.out)) rfl ⟨rfl, B5.out⟩
end Go.Proofs.YtcedmiojmepioaaGreatDoor
