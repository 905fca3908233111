/- The reference of layer 9: Element. The reference: cipher, Make. The reference: Use, Few, Put, Spend. -/
import Derived.Deep.RegionWith
import Derived.Test.YtpjobllfiimdkaaGreatDoorGroupRef
import Derived.Test.YtpjobllfiimdkaaGreatDoorGroupE
import Derived.Test.YtpjobllfiimdkaaGreatDoorOntRf1
import Derived.Test.YtpjobllfiimdkaaGreatDoorOntUse
namespace Go.Proofs.YtpjobllfiimdkaaGreatDoor
open Go.RowKit Go.Shelf
set_option linter.unusedVariables false

set_option maxHeartbeats 400000 in
theorem relm_any (n : Int) (w : World) (hn : -9223372036854775808 ≤ n ∧ n ≤ 9223372036854775807) :
    Calls Tryz.prog 58 #[.int .i64 n] w fun e w' => e = .returned (.tuple #[.int .i64 (elmZ n), .int .i64 (elmE n)]) ∧ w = w' := by
  by_cases h1 : n < 1
  · have e1 := Lib.hid (show elmZ n = 0 by unfold elmZ; rw [if_neg (by omega)])
    have e2 := Lib.hid (show elmE n = 1 by unfold elmE; rw [if_neg (by omega)])
    go_enter Tryz.func58, Tryz.ntmps58
    go_wp2_with fail
    go_ret2
    exact ⟨ret_two e1.out.symm e2.out.symm, rfl⟩
  · by_cases h2 : n > 1073741789
    · have e1 := Lib.hid (show elmZ n = 0 by unfold elmZ; rw [if_neg (by omega)])
      have e2 := Lib.hid (show elmE n = 1 by unfold elmE; rw [if_neg (by omega)])
      go_enter Tryz.func58, Tryz.ntmps58
      go_wp2_with fail
      go_ret2
      exact ⟨ret_two e1.out.symm e2.out.symm, rfl⟩
    · have e2 := Lib.hid (show elmE n = 0 by unfold elmE; rw [if_pos (by omega)])
      cases hv : elB n with
      | true =>
        have e1 := Lib.hid (show elmZ n = n by unfold elmZ; rw [if_pos (by omega), hv]; rfl)
        have HV := Lib.hid hv; clear hv
        go_enter Tryz.func58, Tryz.ntmps58
        go_wp2_with fail
        refine (rvalid_any _ _).mono ?_; rintro e w' ⟨rfl, rfl⟩; rw [HV.out]
        go_wp2_with fail
        go_ret2
        exact ⟨ret_two e1.out.symm e2.out.symm, rfl⟩
      | false =>
        have e1 := Lib.hid (show elmZ n = 2147483579 - n by unfold elmZ; rw [if_pos (by omega), hv]; rfl)
        have HV := Lib.hid hv; clear hv
        go_enter Tryz.func58, Tryz.ntmps58
        go_wp2_with fail
        refine (rvalid_any _ _).mono ?_; rintro e w' ⟨rfl, rfl⟩; rw [HV.out]
        go_wp2_with fail
        go_ret2
        exact ⟨ret_two e1.out.symm e2.out.symm, rfl⟩

end Go.Proofs.YtpjobllfiimdkaaGreatDoor
namespace Go.Proofs.YtpjobllfiimdkaaGreatDoor
open Go.RowKit
set_option linter.unusedVariables false
set_option linter.unusedSimpArgs false

theorem rPow_c (a n x : Int) (w : World) (h : Hid (powZ a n = x)) : Calls Tryz.prog 53 #[.int .i64 a, .int .i64 n] w fun e w' => e = .returned (.tuple #[.int .i64 x, .int .i64 (powE a)]) ∧ w = w' := by
  rw [← h.out]; exact rPow_any a n w
theorem rMul_c (a b x : Int) (w : World) (h : Hid (mulZ a b = x)) : Calls Tryz.prog 60 #[.int .i64 a, .int .i64 b] w fun e w' => e = .returned (.tuple #[.int .i64 x, .int .i64 (mulE a b)]) ∧ w = w' := by
  rw [← h.out]; exact rMul_any a b w
theorem relm_ok (n x : Int) (w : World) (hr : Hid (-9223372036854775808 ≤ n ∧ n ≤ 9223372036854775807)) (hw : Hid (wordB n = true)) (hx : Hid (elmZ n = x)) : Calls Tryz.prog 58 #[.int .i64 n] w fun e w' => e = .returned (.tuple #[.int .i64 x, .int .i64 0]) ∧ w = w' := by
  have := relm_any n w hr.out
  rwa [hx.out, show elmE n = 0 by unfold elmE; rw [if_pos (wordB_iff.1 hw.out)]] at this
theorem relm_no (n : Int) (w : World) (hr : Hid (-9223372036854775808 ≤ n ∧ n ≤ 9223372036854775807)) (hw : Hid (wordB n = false)) : Calls Tryz.prog 58 #[.int .i64 n] w fun e w' => e = .returned (.tuple #[.int .i64 0, .int .i64 1]) ∧ w = w' := by
  have := relm_any n w hr.out
  have hn : ¬ (1 ≤ n ∧ n ≤ 1073741789) := fun h => by rw [wordB_iff.2 h] at hw; exact absurd hw.out (by simp)
  rwa [show elmZ n = 0 by unfold elmZ; rw [if_neg hn], show elmE n = 1 by unfold elmE; rw [if_neg hn]] at this
set_option maxRecDepth 100000 in
set_option maxHeartbeats 2000000 in
theorem rcipher_is (key x r a b : Int) (w : World) (h : Hid (IsCip key x r a b)) :
    Calls Tryz.prog 59 #[.int .i64 key, .int .i64 x, .int .i64 r] w fun e w' => e = .returned (.agg #[.int .i64 a, .int .i64 b]) ∧ Below w.heap.size w w' := by
  obtain ⟨q, hq⟩ : ∃ q, powZ key r = q := ⟨_, rfl⟩
  have HQ := Lib.hid hq
  have HA := Lib.hid h.out.ha
  have HM := Lib.hid (show mulZ x q = b by rw [← hq]; exact h.out.hb)
  clear hq
  go_enter Tryz.func59, Tryz.ntmps59
  go_wp2_with (first
    | (go_at_call 53; with_reducible refine (rPow_c 4 r a _ HA).mono ?_; rintro e w' ⟨rfl, rfl⟩)
    | (go_at_call 53; with_reducible refine (rPow_c key r q _ HQ).mono ?_; rintro e w' ⟨rfl, rfl⟩)
    | (go_at_call 60; with_reducible refine (rMul_c x q b _ HM).mono ?_; rintro e w' ⟨rfl, rfl⟩))
  refine bodyPost_ret (v := .agg #[.int .i64 a, .int .i64 b]) (by simp [results, Tryz.results59, go_sem]) rfl ⟨rfl, ?_⟩
  repeat refine Below.setCell ?_ (by simp) _
  exact bel_alloc1 w _
end Go.Proofs.YtpjobllfiimdkaaGreatDoor
namespace Go.Proofs.YtpjobllfiimdkaaGreatDoor
open Go.RowKit
set_option linter.unusedVariables false
set_option linter.unusedSimpArgs false

theorem relm_x (n x e : Int) (w : World) (hr : Hid (-9223372036854775808 ≤ n ∧ n ≤ 9223372036854775807)) (hx : Hid (elmZ n = x)) (he : Hid (elmE n = e)) : Calls Tryz.prog 58 #[.int .i64 n] w fun r w' => r = .returned (.tuple #[.int .i64 x, .int .i64 e]) ∧ w = w' := by
  have := relm_any n w hr.out
  rwa [hx.out, he.out] at this
set_option maxRecDepth 100000 in
set_option maxHeartbeats 4000000 in
theorem ruse_ret (l k a b : Int) (zs : List Int) (p q r0 r1 r2 : Int) (w : World) (hz : Hid (zs.length = 32)) (hE : Hid (IsRC l k a b zs 160)) :
    Calls Tryz.prog 21 #[.agg (rtv l k a b zs).toArray, .agg #[.int .i64 p, .int .i64 q], .agg #[.int .i64 r0, .int .i64 r1, .int .i64 r2]] w fun e w' => e = .returned (.tuple #[sealedV 0 0 0 0 0 0, .int .i64 160]) ∧ Below w.heap.size w w' := by
  have X0 := Lib.hid (show RBlk ((((w.alloc (.cells (rtv l k a b zs).toArray 29)).alloc (.cells #[.int .i64 p, .int .i64 q] 57)).alloc (.cells #[.int .i64 r0, .int .i64 r1, .int .i64 r2] 22)).alloc (.cells #[.int .i64 0, .int .i64 0, .int .i64 0, .int .i64 0, .int .i64 0, .int .i64 0] 32)) w.heap.size l k a b zs from (((RBlk.box w l k a b hz.out).alloc _).alloc _).alloc _)
  have P0 := Lib.hid (show Blk ((((w.alloc (.cells (rtv l k a b zs).toArray 29)).alloc (.cells #[.int .i64 p, .int .i64 q] 57)).alloc (.cells #[.int .i64 r0, .int .i64 r1, .int .i64 r2] 22)).alloc (.cells #[.int .i64 0, .int .i64 0, .int .i64 0, .int .i64 0, .int .i64 0, .int .i64 0] 32)) (w.heap.size + 1) #[.int .i64 p, .int .i64 q] 57 by
    have h := Blk.new (w.alloc (.cells (rtv l k a b zs).toArray 29)) #[.int .i64 p, .int .i64 q] 57
    simp only [World.size_alloc] at h
    exact (h.alloc _).alloc _)
  have Q0 := Lib.hid (show Blk ((((w.alloc (.cells (rtv l k a b zs).toArray 29)).alloc (.cells #[.int .i64 p, .int .i64 q] 57)).alloc (.cells #[.int .i64 r0, .int .i64 r1, .int .i64 r2] 22)).alloc (.cells #[.int .i64 0, .int .i64 0, .int .i64 0, .int .i64 0, .int .i64 0, .int .i64 0] 32)) (w.heap.size + 1 + 1) #[.int .i64 r0, .int .i64 r1, .int .i64 r2] 22 by
    have h := Blk.new ((w.alloc (.cells (rtv l k a b zs).toArray 29)).alloc (.cells #[.int .i64 p, .int .i64 q] 57)) #[.int .i64 r0, .int .i64 r1, .int .i64 r2] 22
    simp only [World.size_alloc] at h
    exact h.alloc _)
  have Z0 := Lib.hid (show Blk ((((w.alloc (.cells (rtv l k a b zs).toArray 29)).alloc (.cells #[.int .i64 p, .int .i64 q] 57)).alloc (.cells #[.int .i64 r0, .int .i64 r1, .int .i64 r2] 22)).alloc (.cells #[.int .i64 0, .int .i64 0, .int .i64 0, .int .i64 0, .int .i64 0, .int .i64 0] 32)) (w.heap.size + 1 + 1 + 1) #[.int .i64 0, .int .i64 0, .int .i64 0, .int .i64 0, .int .i64 0, .int .i64 0] 32 by
    have h := Blk.new (((w.alloc (.cells (rtv l k a b zs).toArray 29)).alloc (.cells #[.int .i64 p, .int .i64 q] 57)).alloc (.cells #[.int .i64 r0, .int .i64 r1, .int .i64 r2] 22)) #[.int .i64 0, .int .i64 0, .int .i64 0, .int .i64 0, .int .i64 0, .int .i64 0] 32
    simp only [World.size_alloc] at h
    exact h)
  have B0 := Lib.hid (show Below w.heap.size w ((((w.alloc (.cells (rtv l k a b zs).toArray 29)).alloc (.cells #[.int .i64 p, .int .i64 q] 57)).alloc (.cells #[.int .i64 r0, .int .i64 r1, .int .i64 r2] 22)).alloc (.cells #[.int .i64 0, .int .i64 0, .int .i64 0, .int .i64 0, .int .i64 0, .int .i64 0] 32)) from (((bel_alloc1 w _).alloc (by simp) _).alloc (by simp; omega) _).alloc (by simp; omega) _)
  go_enter Tryz.func21, Tryz.ntmps21
  go_upto_region 1 with fail
  generalize World.alloc (World.alloc (World.alloc (World.alloc w _) _) _) _ = W0 at X0 P0 Q0 Z0 B0 ⊢
  have p0 : W0.cell? ⟨w.heap.size + 1, 0, none⟩ = some (.int .i64 p) := P0.out.cell 0
  have p1 : W0.cell? ⟨w.heap.size + 1, 1, none⟩ = some (.int .i64 q) := P0.out.cell 1
  have x1 := X0.out.lt
  go_wp2_with (first
    | (refine list_loadR (by rfl) (.tmp 3) rfl w.heap.size rfl l k a b zs X0.out ?_)
    | (go_at_call 57; refine (rcheck_any l k a b zs 160 _ hz hE).mono ?_; rintro e w1 ⟨rfl, hb⟩; have B1 := Lib.hid (bel_trans B0.out hb); have X1 := Lib.hid (X0.out.bel hb); have P1 := Lib.hid (P0.out.below hb P0.out.lt); have Q1 := Lib.hid (Q0.out.below hb Q0.out.lt); have Z1 := Lib.hid (Z0.out.below hb Z0.out.lt); have c0 := P1.out.cell 0; have c1 := P1.out.cell 1; have z0 := Z1.out.cell 0; have y0 := Z1.out.frozen 0; have z1 := Z1.out.cell 1; have y1 := Z1.out.frozen 1; have z2 := Z1.out.cell 2; have y2 := Z1.out.frozen 2; have z3 := Z1.out.cell 3; have y3 := Z1.out.frozen 3; have z4 := Z1.out.cell 4; have y4 := Z1.out.frozen 4; have z5 := Z1.out.cell 5; have y5 := Z1.out.frozen 5; clear hb)
  )
  have hJ : Blk ((((((w1.setCell ⟨w.heap.size + 1 + 1 + 1, 0, none⟩ (.int .i64 0)).setCell ⟨w.heap.size + 1 + 1 + 1, 1, none⟩ (.int .i64 0)).setCell ⟨w.heap.size + 1 + 1 + 1, 2, none⟩ (.int .i64 0)).setCell ⟨w.heap.size + 1 + 1 + 1, 3, none⟩ (.int .i64 0)).setCell ⟨w.heap.size + 1 + 1 + 1, 4, none⟩ (.int .i64 0)).setCell ⟨w.heap.size + 1 + 1 + 1, 5, none⟩ (.int .i64 0)) (w.heap.size + 1 + 1 + 1) #[.int .i64 0, .int .i64 0, .int .i64 0, .int .i64 0, .int .i64 0, .int .i64 0] 32 := six_stored Z1.out _ _ _ _ _ _
  have hB : Below w.heap.size w ((((((w1.setCell ⟨w.heap.size + 1 + 1 + 1, 0, none⟩ (.int .i64 0)).setCell ⟨w.heap.size + 1 + 1 + 1, 1, none⟩ (.int .i64 0)).setCell ⟨w.heap.size + 1 + 1 + 1, 2, none⟩ (.int .i64 0)).setCell ⟨w.heap.size + 1 + 1 + 1, 3, none⟩ (.int .i64 0)).setCell ⟨w.heap.size + 1 + 1 + 1, 4, none⟩ (.int .i64 0)).setCell ⟨w.heap.size + 1 + 1 + 1, 5, none⟩ (.int .i64 0)) := six_below B1.out (by omega) _ _ _ _ _ _
  generalize ((((((w1.setCell ⟨w.heap.size + 1 + 1 + 1, 0, none⟩ (.int .i64 0)).setCell ⟨w.heap.size + 1 + 1 + 1, 1, none⟩ (.int .i64 0)).setCell ⟨w.heap.size + 1 + 1 + 1, 2, none⟩ (.int .i64 0)).setCell ⟨w.heap.size + 1 + 1 + 1, 3, none⟩ (.int .i64 0)).setCell ⟨w.heap.size + 1 + 1 + 1, 4, none⟩ (.int .i64 0)).setCell ⟨w.heap.size + 1 + 1 + 1, 5, none⟩ (.int .i64 0)) = W2 at hJ hB ⊢
  obtain ⟨e0, e1, e2, e3, e4, e5⟩ := res6_ret hJ
  refine bodyPost_ret (v := .tuple #[sealedV 0 0 0 0 0 0, .int .i64 160]) (by simp [results, Tryz.results21, go_sem, e0, e1, e2, e3, e4, e5]) rfl ⟨rfl, hB⟩
set_option maxRecDepth 100000 in
set_option maxHeartbeats 4000000 in
theorem ruse_w0 (l k a b : Int) (zs : List Int) (p q r0 r1 r2 : Int) (w : World) (hz : Hid (zs.length = 32)) (hE : Hid (IsRC l k a b zs 0)) (hpr : Hid (-9223372036854775808 ≤ p ∧ p ≤ 9223372036854775807)) (hqr : Hid (-9223372036854775808 ≤ q ∧ q ≤ 9223372036854775807)) (hp : Hid (wordB p = false)) :
    Calls Tryz.prog 21 #[.agg (rtv l k a b zs).toArray, .agg #[.int .i64 p, .int .i64 q], .agg #[.int .i64 r0, .int .i64 r1, .int .i64 r2]] w fun e w' => e = .returned (.tuple #[sealedV 0 0 0 0 0 0, .int .i64 100]) ∧ Below w.heap.size w w' := by
  obtain ⟨xq, hx⟩ : ∃ x, elmZ q = x := ⟨_, rfl⟩
  obtain ⟨eq, hy⟩ : ∃ x, elmE q = x := ⟨_, rfl⟩
  have HXq := Lib.hid hx
  have HEq := Lib.hid hy
  clear hx hy
  have X0 := Lib.hid (show RBlk ((((w.alloc (.cells (rtv l k a b zs).toArray 29)).alloc (.cells #[.int .i64 p, .int .i64 q] 57)).alloc (.cells #[.int .i64 r0, .int .i64 r1, .int .i64 r2] 22)).alloc (.cells #[.int .i64 0, .int .i64 0, .int .i64 0, .int .i64 0, .int .i64 0, .int .i64 0] 32)) w.heap.size l k a b zs from (((RBlk.box w l k a b hz.out).alloc _).alloc _).alloc _)
  have P0 := Lib.hid (show Blk ((((w.alloc (.cells (rtv l k a b zs).toArray 29)).alloc (.cells #[.int .i64 p, .int .i64 q] 57)).alloc (.cells #[.int .i64 r0, .int .i64 r1, .int .i64 r2] 22)).alloc (.cells #[.int .i64 0, .int .i64 0, .int .i64 0, .int .i64 0, .int .i64 0, .int .i64 0] 32)) (w.heap.size + 1) #[.int .i64 p, .int .i64 q] 57 by
    have h := Blk.new (w.alloc (.cells (rtv l k a b zs).toArray 29)) #[.int .i64 p, .int .i64 q] 57
    simp only [World.size_alloc] at h
    exact (h.alloc _).alloc _)
  have Q0 := Lib.hid (show Blk ((((w.alloc (.cells (rtv l k a b zs).toArray 29)).alloc (.cells #[.int .i64 p, .int .i64 q] 57)).alloc (.cells #[.int .i64 r0, .int .i64 r1, .int .i64 r2] 22)).alloc (.cells #[.int .i64 0, .int .i64 0, .int .i64 0, .int .i64 0, .int .i64 0, .int .i64 0] 32)) (w.heap.size + 1 + 1) #[.int .i64 r0, .int .i64 r1, .int .i64 r2] 22 by
    have h := Blk.new ((w.alloc (.cells (rtv l k a b zs).toArray 29)).alloc (.cells #[.int .i64 p, .int .i64 q] 57)) #[.int .i64 r0, .int .i64 r1, .int .i64 r2] 22
    simp only [World.size_alloc] at h
    exact h.alloc _)
  have Z0 := Lib.hid (show Blk ((((w.alloc (.cells (rtv l k a b zs).toArray 29)).alloc (.cells #[.int .i64 p, .int .i64 q] 57)).alloc (.cells #[.int .i64 r0, .int .i64 r1, .int .i64 r2] 22)).alloc (.cells #[.int .i64 0, .int .i64 0, .int .i64 0, .int .i64 0, .int .i64 0, .int .i64 0] 32)) (w.heap.size + 1 + 1 + 1) #[.int .i64 0, .int .i64 0, .int .i64 0, .int .i64 0, .int .i64 0, .int .i64 0] 32 by
    have h := Blk.new (((w.alloc (.cells (rtv l k a b zs).toArray 29)).alloc (.cells #[.int .i64 p, .int .i64 q] 57)).alloc (.cells #[.int .i64 r0, .int .i64 r1, .int .i64 r2] 22)) #[.int .i64 0, .int .i64 0, .int .i64 0, .int .i64 0, .int .i64 0, .int .i64 0] 32
    simp only [World.size_alloc] at h
    exact h)
  have B0 := Lib.hid (show Below w.heap.size w ((((w.alloc (.cells (rtv l k a b zs).toArray 29)).alloc (.cells #[.int .i64 p, .int .i64 q] 57)).alloc (.cells #[.int .i64 r0, .int .i64 r1, .int .i64 r2] 22)).alloc (.cells #[.int .i64 0, .int .i64 0, .int .i64 0, .int .i64 0, .int .i64 0, .int .i64 0] 32)) from (((bel_alloc1 w _).alloc (by simp) _).alloc (by simp; omega) _).alloc (by simp; omega) _)
  go_enter Tryz.func21, Tryz.ntmps21
  go_upto_region 1 with fail
  generalize World.alloc (World.alloc (World.alloc (World.alloc w _) _) _) _ = W0 at X0 P0 Q0 Z0 B0 ⊢
  have p0 : W0.cell? ⟨w.heap.size + 1, 0, none⟩ = some (.int .i64 p) := P0.out.cell 0
  have p1 : W0.cell? ⟨w.heap.size + 1, 1, none⟩ = some (.int .i64 q) := P0.out.cell 1
  have x1 := X0.out.lt
  go_wp2_with (first
    | (refine list_loadR (by rfl) (.tmp 3) rfl w.heap.size rfl l k a b zs X0.out ?_)
    | (go_at_call 57; refine (rcheck_any l k a b zs 0 _ hz hE).mono ?_; rintro e w1 ⟨rfl, hb⟩; have B1 := Lib.hid (bel_trans B0.out hb); have X1 := Lib.hid (X0.out.bel hb); have P1 := Lib.hid (P0.out.below hb P0.out.lt); have Q1 := Lib.hid (Q0.out.below hb Q0.out.lt); have Z1 := Lib.hid (Z0.out.below hb Z0.out.lt); have c0 := P1.out.cell 0; have c1 := P1.out.cell 1; have z0 := Z1.out.cell 0; have y0 := Z1.out.frozen 0; have z1 := Z1.out.cell 1; have y1 := Z1.out.frozen 1; have z2 := Z1.out.cell 2; have y2 := Z1.out.frozen 2; have z3 := Z1.out.cell 3; have y3 := Z1.out.frozen 3; have z4 := Z1.out.cell 4; have y4 := Z1.out.frozen 4; have z5 := Z1.out.cell 5; have y5 := Z1.out.frozen 5; clear hb)
    | (go_at_call 58; with_reducible refine (relm_no p _ hpr hp).mono ?_; rintro e w' ⟨rfl, rfl⟩)
    | (go_at_call 58; with_reducible refine (relm_x q xq eq _ hqr HXq HEq).mono ?_; rintro e w' ⟨rfl, rfl⟩)
  )
  have hJ : Blk ((((((w1.setCell ⟨w.heap.size + 1 + 1 + 1, 0, none⟩ (.int .i64 0)).setCell ⟨w.heap.size + 1 + 1 + 1, 1, none⟩ (.int .i64 0)).setCell ⟨w.heap.size + 1 + 1 + 1, 2, none⟩ (.int .i64 0)).setCell ⟨w.heap.size + 1 + 1 + 1, 3, none⟩ (.int .i64 0)).setCell ⟨w.heap.size + 1 + 1 + 1, 4, none⟩ (.int .i64 0)).setCell ⟨w.heap.size + 1 + 1 + 1, 5, none⟩ (.int .i64 0)) (w.heap.size + 1 + 1 + 1) #[.int .i64 0, .int .i64 0, .int .i64 0, .int .i64 0, .int .i64 0, .int .i64 0] 32 := six_stored Z1.out _ _ _ _ _ _
  have hB : Below w.heap.size w ((((((w1.setCell ⟨w.heap.size + 1 + 1 + 1, 0, none⟩ (.int .i64 0)).setCell ⟨w.heap.size + 1 + 1 + 1, 1, none⟩ (.int .i64 0)).setCell ⟨w.heap.size + 1 + 1 + 1, 2, none⟩ (.int .i64 0)).setCell ⟨w.heap.size + 1 + 1 + 1, 3, none⟩ (.int .i64 0)).setCell ⟨w.heap.size + 1 + 1 + 1, 4, none⟩ (.int .i64 0)).setCell ⟨w.heap.size + 1 + 1 + 1, 5, none⟩ (.int .i64 0)) := six_below B1.out (by omega) _ _ _ _ _ _
  generalize ((((((w1.setCell ⟨w.heap.size + 1 + 1 + 1, 0, none⟩ (.int .i64 0)).setCell ⟨w.heap.size + 1 + 1 + 1, 1, none⟩ (.int .i64 0)).setCell ⟨w.heap.size + 1 + 1 + 1, 2, none⟩ (.int .i64 0)).setCell ⟨w.heap.size + 1 + 1 + 1, 3, none⟩ (.int .i64 0)).setCell ⟨w.heap.size + 1 + 1 + 1, 4, none⟩ (.int .i64 0)).setCell ⟨w.heap.size + 1 + 1 + 1, 5, none⟩ (.int .i64 0)) = W2 at hJ hB ⊢
  obtain ⟨e0, e1, e2, e3, e4, e5⟩ := res6_ret hJ
  refine bodyPost_ret (v := .tuple #[sealedV 0 0 0 0 0 0, .int .i64 100]) (by simp [results, Tryz.results21, go_sem, e0, e1, e2, e3, e4, e5]) rfl ⟨rfl, hB⟩
set_option maxRecDepth 100000 in
set_option maxHeartbeats 4000000 in
theorem ruse_w1 (l k a b : Int) (zs : List Int) (p q r0 r1 r2 : Int) (w : World) (hz : Hid (zs.length = 32)) (hE : Hid (IsRC l k a b zs 0)) (hpr : Hid (-9223372036854775808 ≤ p ∧ p ≤ 9223372036854775807)) (hqr : Hid (-9223372036854775808 ≤ q ∧ q ≤ 9223372036854775807)) (hp : Hid (wordB p = true)) (hq : Hid (wordB q = false)) :
    Calls Tryz.prog 21 #[.agg (rtv l k a b zs).toArray, .agg #[.int .i64 p, .int .i64 q], .agg #[.int .i64 r0, .int .i64 r1, .int .i64 r2]] w fun e w' => e = .returned (.tuple #[sealedV 0 0 0 0 0 0, .int .i64 100]) ∧ Below w.heap.size w w' := by
  obtain ⟨xp, hx⟩ : ∃ x, elmZ p = x := ⟨_, rfl⟩
  have HXp := Lib.hid hx
  clear hx
  have X0 := Lib.hid (show RBlk ((((w.alloc (.cells (rtv l k a b zs).toArray 29)).alloc (.cells #[.int .i64 p, .int .i64 q] 57)).alloc (.cells #[.int .i64 r0, .int .i64 r1, .int .i64 r2] 22)).alloc (.cells #[.int .i64 0, .int .i64 0, .int .i64 0, .int .i64 0, .int .i64 0, .int .i64 0] 32)) w.heap.size l k a b zs from (((RBlk.box w l k a b hz.out).alloc _).alloc _).alloc _)
  have P0 := Lib.hid (show Blk ((((w.alloc (.cells (rtv l k a b zs).toArray 29)).alloc (.cells #[.int .i64 p, .int .i64 q] 57)).alloc (.cells #[.int .i64 r0, .int .i64 r1, .int .i64 r2] 22)).alloc (.cells #[.int .i64 0, .int .i64 0, .int .i64 0, .int .i64 0, .int .i64 0, .int .i64 0] 32)) (w.heap.size + 1) #[.int .i64 p, .int .i64 q] 57 by
    have h := Blk.new (w.alloc (.cells (rtv l k a b zs).toArray 29)) #[.int .i64 p, .int .i64 q] 57
    simp only [World.size_alloc] at h
    exact (h.alloc _).alloc _)
  have Q0 := Lib.hid (show Blk ((((w.alloc (.cells (rtv l k a b zs).toArray 29)).alloc (.cells #[.int .i64 p, .int .i64 q] 57)).alloc (.cells #[.int .i64 r0, .int .i64 r1, .int .i64 r2] 22)).alloc (.cells #[.int .i64 0, .int .i64 0, .int .i64 0, .int .i64 0, .int .i64 0, .int .i64 0] 32)) (w.heap.size + 1 + 1) #[.int .i64 r0, .int .i64 r1, .int .i64 r2] 22 by
    have h := Blk.new ((w.alloc (.cells (rtv l k a b zs).toArray 29)).alloc (.cells #[.int .i64 p, .int .i64 q] 57)) #[.int .i64 r0, .int .i64 r1, .int .i64 r2] 22
    simp only [World.size_alloc] at h
    exact h.alloc _)
  have Z0 := Lib.hid (show Blk ((((w.alloc (.cells (rtv l k a b zs).toArray 29)).alloc (.cells #[.int .i64 p, .int .i64 q] 57)).alloc (.cells #[.int .i64 r0, .int .i64 r1, .int .i64 r2] 22)).alloc (.cells #[.int .i64 0, .int .i64 0, .int .i64 0, .int .i64 0, .int .i64 0, .int .i64 0] 32)) (w.heap.size + 1 + 1 + 1) #[.int .i64 0, .int .i64 0, .int .i64 0, .int .i64 0, .int .i64 0, .int .i64 0] 32 by
    have h := Blk.new (((w.alloc (.cells (rtv l k a b zs).toArray 29)).alloc (.cells #[.int .i64 p, .int .i64 q] 57)).alloc (.cells #[.int .i64 r0, .int .i64 r1, .int .i64 r2] 22)) #[.int .i64 0, .int .i64 0, .int .i64 0, .int .i64 0, .int .i64 0, .int .i64 0] 32
    simp only [World.size_alloc] at h
    exact h)
  have B0 := Lib.hid (show Below w.heap.size w ((((w.alloc (.cells (rtv l k a b zs).toArray 29)).alloc (.cells #[.int .i64 p, .int .i64 q] 57)).alloc (.cells #[.int .i64 r0, .int .i64 r1, .int .i64 r2] 22)).alloc (.cells #[.int .i64 0, .int .i64 0, .int .i64 0, .int .i64 0, .int .i64 0, .int .i64 0] 32)) from (((bel_alloc1 w _).alloc (by simp) _).alloc (by simp; omega) _).alloc (by simp; omega) _)
  go_enter Tryz.func21, Tryz.ntmps21
  go_upto_region 1 with fail
  generalize World.alloc (World.alloc (World.alloc (World.alloc w _) _) _) _ = W0 at X0 P0 Q0 Z0 B0 ⊢
  have p0 : W0.cell? ⟨w.heap.size + 1, 0, none⟩ = some (.int .i64 p) := P0.out.cell 0
  have p1 : W0.cell? ⟨w.heap.size + 1, 1, none⟩ = some (.int .i64 q) := P0.out.cell 1
  have x1 := X0.out.lt
  go_wp2_with (first
    | (refine list_loadR (by rfl) (.tmp 3) rfl w.heap.size rfl l k a b zs X0.out ?_)
    | (go_at_call 57; refine (rcheck_any l k a b zs 0 _ hz hE).mono ?_; rintro e w1 ⟨rfl, hb⟩; have B1 := Lib.hid (bel_trans B0.out hb); have X1 := Lib.hid (X0.out.bel hb); have P1 := Lib.hid (P0.out.below hb P0.out.lt); have Q1 := Lib.hid (Q0.out.below hb Q0.out.lt); have Z1 := Lib.hid (Z0.out.below hb Z0.out.lt); have c0 := P1.out.cell 0; have c1 := P1.out.cell 1; have z0 := Z1.out.cell 0; have y0 := Z1.out.frozen 0; have z1 := Z1.out.cell 1; have y1 := Z1.out.frozen 1; have z2 := Z1.out.cell 2; have y2 := Z1.out.frozen 2; have z3 := Z1.out.cell 3; have y3 := Z1.out.frozen 3; have z4 := Z1.out.cell 4; have y4 := Z1.out.frozen 4; have z5 := Z1.out.cell 5; have y5 := Z1.out.frozen 5; clear hb)
    | (go_at_call 58; with_reducible refine (relm_ok p xp _ hpr hp HXp).mono ?_; rintro e w' ⟨rfl, rfl⟩)
    | (go_at_call 58; with_reducible refine (relm_no q _ hqr hq).mono ?_; rintro e w' ⟨rfl, rfl⟩)
  )
  have hJ : Blk ((((((w1.setCell ⟨w.heap.size + 1 + 1 + 1, 0, none⟩ (.int .i64 0)).setCell ⟨w.heap.size + 1 + 1 + 1, 1, none⟩ (.int .i64 0)).setCell ⟨w.heap.size + 1 + 1 + 1, 2, none⟩ (.int .i64 0)).setCell ⟨w.heap.size + 1 + 1 + 1, 3, none⟩ (.int .i64 0)).setCell ⟨w.heap.size + 1 + 1 + 1, 4, none⟩ (.int .i64 0)).setCell ⟨w.heap.size + 1 + 1 + 1, 5, none⟩ (.int .i64 0)) (w.heap.size + 1 + 1 + 1) #[.int .i64 0, .int .i64 0, .int .i64 0, .int .i64 0, .int .i64 0, .int .i64 0] 32 := six_stored Z1.out _ _ _ _ _ _
  have hB : Below w.heap.size w ((((((w1.setCell ⟨w.heap.size + 1 + 1 + 1, 0, none⟩ (.int .i64 0)).setCell ⟨w.heap.size + 1 + 1 + 1, 1, none⟩ (.int .i64 0)).setCell ⟨w.heap.size + 1 + 1 + 1, 2, none⟩ (.int .i64 0)).setCell ⟨w.heap.size + 1 + 1 + 1, 3, none⟩ (.int .i64 0)).setCell ⟨w.heap.size + 1 + 1 + 1, 4, none⟩ (.int .i64 0)).setCell ⟨w.heap.size + 1 + 1 + 1, 5, none⟩ (.int .i64 0)) := six_below B1.out (by omega) _ _ _ _ _ _
  generalize ((((((w1.setCell ⟨w.heap.size + 1 + 1 + 1, 0, none⟩ (.int .i64 0)).setCell ⟨w.heap.size + 1 + 1 + 1, 1, none⟩ (.int .i64 0)).setCell ⟨w.heap.size + 1 + 1 + 1, 2, none⟩ (.int .i64 0)).setCell ⟨w.heap.size + 1 + 1 + 1, 3, none⟩ (.int .i64 0)).setCell ⟨w.heap.size + 1 + 1 + 1, 4, none⟩ (.int .i64 0)).setCell ⟨w.heap.size + 1 + 1 + 1, 5, none⟩ (.int .i64 0)) = W2 at hJ hB ⊢
  obtain ⟨e0, e1, e2, e3, e4, e5⟩ := res6_ret hJ
  refine bodyPost_ret (v := .tuple #[sealedV 0 0 0 0 0 0, .int .i64 100]) (by simp [results, Tryz.results21, go_sem, e0, e1, e2, e3, e4, e5]) rfl ⟨rfl, hB⟩
set_option maxRecDepth 100000 in
set_option maxHeartbeats 4000000 in
theorem ruse_ok (l k a b : Int) (zs : List Int) (p q r0 r1 r2 : Int) (w : World) (hz : Hid (zs.length = 32)) (hE : Hid (IsRC l k a b zs 0)) (hpr : Hid (-9223372036854775808 ≤ p ∧ p ≤ 9223372036854775807)) (hqr : Hid (-9223372036854775808 ≤ q ∧ q ≤ 9223372036854775807)) (hp : Hid (wordB p = true)) (hq : Hid (wordB q = true)) (a0 b0 a1 b1 a2 b2 A B : Int) (h0 : Hid (IsCip k 1 r0 a0 b0)) (h1 : Hid (IsCip k (elmZ p) r1 a1 b1)) (h2 : Hid (IsCip k (elmZ q) r2 a2 b2)) (hA : Hid (mulZ a a0 = A)) (hB : Hid (mulZ b b0 = B)) :
    Calls Tryz.prog 21 #[.agg (rtv l k a b zs).toArray, .agg #[.int .i64 p, .int .i64 q], .agg #[.int .i64 r0, .int .i64 r1, .int .i64 r2]] w fun e w' => e = .returned (.tuple #[sealedV A B a1 b1 a2 b2, .int .i64 0]) ∧ Below w.heap.size w w' := by
  obtain ⟨xp, hx⟩ : ∃ x, elmZ p = x := ⟨_, rfl⟩
  obtain ⟨xq, hy⟩ : ∃ x, elmZ q = x := ⟨_, rfl⟩
  have HXp := Lib.hid hx
  have HXq := Lib.hid hy
  rw [hx] at h1
  rw [hy] at h2
  clear hx hy
  have X0 := Lib.hid (show RBlk ((((w.alloc (.cells (rtv l k a b zs).toArray 29)).alloc (.cells #[.int .i64 p, .int .i64 q] 57)).alloc (.cells #[.int .i64 r0, .int .i64 r1, .int .i64 r2] 22)).alloc (.cells #[.int .i64 0, .int .i64 0, .int .i64 0, .int .i64 0, .int .i64 0, .int .i64 0] 32)) w.heap.size l k a b zs from (((RBlk.box w l k a b hz.out).alloc _).alloc _).alloc _)
  have P0 := Lib.hid (show Blk ((((w.alloc (.cells (rtv l k a b zs).toArray 29)).alloc (.cells #[.int .i64 p, .int .i64 q] 57)).alloc (.cells #[.int .i64 r0, .int .i64 r1, .int .i64 r2] 22)).alloc (.cells #[.int .i64 0, .int .i64 0, .int .i64 0, .int .i64 0, .int .i64 0, .int .i64 0] 32)) (w.heap.size + 1) #[.int .i64 p, .int .i64 q] 57 by
    have h := Blk.new (w.alloc (.cells (rtv l k a b zs).toArray 29)) #[.int .i64 p, .int .i64 q] 57
    simp only [World.size_alloc] at h
    exact (h.alloc _).alloc _)
  have Q0 := Lib.hid (show Blk ((((w.alloc (.cells (rtv l k a b zs).toArray 29)).alloc (.cells #[.int .i64 p, .int .i64 q] 57)).alloc (.cells #[.int .i64 r0, .int .i64 r1, .int .i64 r2] 22)).alloc (.cells #[.int .i64 0, .int .i64 0, .int .i64 0, .int .i64 0, .int .i64 0, .int .i64 0] 32)) (w.heap.size + 1 + 1) #[.int .i64 r0, .int .i64 r1, .int .i64 r2] 22 by
    have h := Blk.new ((w.alloc (.cells (rtv l k a b zs).toArray 29)).alloc (.cells #[.int .i64 p, .int .i64 q] 57)) #[.int .i64 r0, .int .i64 r1, .int .i64 r2] 22
    simp only [World.size_alloc] at h
    exact h.alloc _)
  have Z0 := Lib.hid (show Blk ((((w.alloc (.cells (rtv l k a b zs).toArray 29)).alloc (.cells #[.int .i64 p, .int .i64 q] 57)).alloc (.cells #[.int .i64 r0, .int .i64 r1, .int .i64 r2] 22)).alloc (.cells #[.int .i64 0, .int .i64 0, .int .i64 0, .int .i64 0, .int .i64 0, .int .i64 0] 32)) (w.heap.size + 1 + 1 + 1) #[.int .i64 0, .int .i64 0, .int .i64 0, .int .i64 0, .int .i64 0, .int .i64 0] 32 by
    have h := Blk.new (((w.alloc (.cells (rtv l k a b zs).toArray 29)).alloc (.cells #[.int .i64 p, .int .i64 q] 57)).alloc (.cells #[.int .i64 r0, .int .i64 r1, .int .i64 r2] 22)) #[.int .i64 0, .int .i64 0, .int .i64 0, .int .i64 0, .int .i64 0, .int .i64 0] 32
    simp only [World.size_alloc] at h
    exact h)
  have B0 := Lib.hid (show Below w.heap.size w ((((w.alloc (.cells (rtv l k a b zs).toArray 29)).alloc (.cells #[.int .i64 p, .int .i64 q] 57)).alloc (.cells #[.int .i64 r0, .int .i64 r1, .int .i64 r2] 22)).alloc (.cells #[.int .i64 0, .int .i64 0, .int .i64 0, .int .i64 0, .int .i64 0, .int .i64 0] 32)) from (((bel_alloc1 w _).alloc (by simp) _).alloc (by simp; omega) _).alloc (by simp; omega) _)
  go_enter Tryz.func21, Tryz.ntmps21
  go_upto_region 1 with fail
  generalize World.alloc (World.alloc (World.alloc (World.alloc w _) _) _) _ = W0 at X0 P0 Q0 Z0 B0 ⊢
  have p0 : W0.cell? ⟨w.heap.size + 1, 0, none⟩ = some (.int .i64 p) := P0.out.cell 0
  have p1 : W0.cell? ⟨w.heap.size + 1, 1, none⟩ = some (.int .i64 q) := P0.out.cell 1
  have x1 := X0.out.lt
  go_upto_region 8 with (first
    | (refine list_loadR (by rfl) (.tmp 3) rfl w.heap.size rfl l k a b zs X0.out ?_)
    | (go_at_call 57; refine (rcheck_any l k a b zs 0 _ hz hE).mono ?_; rintro e w1 ⟨rfl, hb⟩; have B1 := Lib.hid (bel_trans B0.out hb); have X1 := Lib.hid (X0.out.bel hb); have P1 := Lib.hid (P0.out.below hb P0.out.lt); have Q1 := Lib.hid (Q0.out.below hb Q0.out.lt); have Z1 := Lib.hid (Z0.out.below hb Z0.out.lt); have c0 := P1.out.cell 0; have c1 := P1.out.cell 1; have z0 := Z1.out.cell 0; have y0 := Z1.out.frozen 0; have z1 := Z1.out.cell 1; have y1 := Z1.out.frozen 1; have z2 := Z1.out.cell 2; have y2 := Z1.out.frozen 2; have z3 := Z1.out.cell 3; have y3 := Z1.out.frozen 3; have z4 := Z1.out.cell 4; have y4 := Z1.out.frozen 4; have z5 := Z1.out.cell 5; have y5 := Z1.out.frozen 5; obtain ⟨i0, i1, i2, i3⟩ := X1.out.ints; have q0 := Q1.out.cell 0; clear hb)
    | (go_at_call 58; with_reducible refine (relm_ok p xp _ hpr hp HXp).mono ?_; rintro e w' ⟨rfl, rfl⟩)
    | (go_at_call 58; with_reducible refine (relm_ok q xq _ hqr hq HXq).mono ?_; rintro e w' ⟨rfl, rfl⟩)
    | (go_at_call 59; refine (rcipher_is k 1 r0 a0 b0 _ h0).mono ?_; rintro e w2 ⟨rfl, hb⟩; have B2 := Lib.hid (bel_trans B1.out hb); have X2 := Lib.hid (X1.out.bel hb); have Q2 := Lib.hid (Q1.out.below hb Q1.out.lt); have Z2 := Lib.hid (Z1.out.below hb Z1.out.lt); clear hb))
  clear i0 i1 i2 i3 q0 c0 c1 z0 y0 z1 y1 z2 y2 z3 y3 z4 y4 z5 y5
  have K2 := Lib.hid (bel_alloc1 w2 (.cells #[.int .i64 a0, .int .i64 b0] 25))
  have C3 := Lib.hid (Blk.new w2 #[.int .i64 a0, .int .i64 b0] 25)
  generalize World.alloc w2 _ = w3 at K2 C3 ⊢
  generalize w2.heap.size = cb at C3 ⊢
  have B3 := Lib.hid (bel_trans B2.out K2.out)
  have X3 := Lib.hid (X2.out.bel K2.out)
  have Q3 := Lib.hid (Q2.out.below K2.out Q2.out.lt)
  have Z3 := Lib.hid (Z2.out.below K2.out Z2.out.lt)
  have c0 := C3.out.cell 0
  have c1 := C3.out.cell 1
  obtain ⟨i0, i1, i2, i3⟩ := X3.out.ints
  simp at c0 c1
  go_upto_region 10 with (first
    | (go_at_call 60; with_reducible refine (rMul_c a a0 A _ hA).mono ?_; rintro e w' ⟨rfl, rfl⟩)
    | (go_at_call 60; with_reducible refine (rMul_c b b0 B _ hB).mono ?_; rintro e w' ⟨rfl, rfl⟩))
  clear i0 i1 i2 i3 c0 c1
  refine wp_region_any (by kernel_rfl) ?_
  change wpAny _ _ _ _ _ _ _ (World.drew _)
  generalize hWD : World.drew _ = W
  have BW := Lib.hid (show Below w.heap.size w W by rw [← hWD]; exact B3.out.drew)
  have XW := Lib.hid (show RBlk W w.heap.size l k a b zs by rw [← hWD]; exact X3.out)
  have QW := Lib.hid (show Blk W (w.heap.size + 1 + 1) #[.int .i64 r0, .int .i64 r1, .int .i64 r2] 22 by rw [← hWD]; exact Q3.out)
  have ZW := Lib.hid (show Blk W (w.heap.size + 1 + 1 + 1) #[.int .i64 0, .int .i64 0, .int .i64 0, .int .i64 0, .int .i64 0, .int .i64 0] 32 by rw [← hWD]; exact Z3.out)
  clear hWD
  have hCD : ∀ u, Ext W u → Ext W u := fun u hu => hu
  refine region_U (D := Ext W) (Ext W) [16] (Ext.refl W) ?_
  refine anyU_takeP (i := 0) (j := 16) (v := .int .i64 A) 63 [] rfl rfl (by kernel_rfl) (by kernel_rfl) (by kernel_rfl) (fun _ _ _ h => h) (by kernel_rfl) (Ext.stable _) hCD (yieldsU_val rfl (fun u hu => by go_simp)) ?_
  refine anyU_takeP (i := 1) (j := 16) (v := .int .i64 B) 64 [] rfl rfl (by kernel_rfl) (by kernel_rfl) (by kernel_rfl) (fun _ _ _ h => h) (by kernel_rfl) (Ext.stable _) hCD (yieldsU_val rfl (fun u hu => by go_simp)) ?_
  refine anyU_takeP (i := 2) (j := 16) (v := .agg #[.int .i64 A, .int .i64 B]) 65 [] rfl rfl (by kernel_rfl) (by kernel_rfl) (by kernel_rfl) (fun _ _ _ h => h) (by kernel_rfl) (Ext.stable _) hCD (yieldsU_val rfl (fun u hu => by go_simp)) ?_
  refine anyU_takeP (i := 3) (j := 16) (v := .pointer (some ⟨w.heap.size, 1, none⟩)) 66 [] rfl rfl (by kernel_rfl) (by kernel_rfl) (by kernel_rfl) (fun _ _ _ h => h) (by kernel_rfl) (Ext.stable _) hCD (yieldsU_val rfl (fun u hu => by go_simp)) ?_
  refine anyU_takeP (i := 4) (j := 16) (v := .int .i64 k) 67 [] rfl rfl (by kernel_rfl) (by kernel_rfl) (by kernel_rfl) (fun _ _ _ h => h) (by kernel_rfl) (Ext.stable _) hCD (yieldsU_val rfl (fun u hu => by obtain ⟨c0, c1, c2, c3⟩ := (XW.out.bel hu).ints; go_simp)) ?_
  simp only [Act.put, List.setIfInBounds_toArray, List.set_cons_succ, List.set_cons_zero]
  refine anyU_takeP (i := 5) (j := 16) (v := .int .i64 xp) 68 [] rfl rfl (by kernel_rfl) (by kernel_rfl) (by kernel_rfl) (fun _ _ _ h => h) (by kernel_rfl) (Ext.stable _) hCD (yieldsU_val rfl (fun u hu => by go_simp)) ?_
  refine anyU_takeP (i := 6) (j := 16) (v := .pointer (some ⟨w.heap.size + 1 + 1, 1, none⟩)) 69 [] rfl rfl (by kernel_rfl) (by kernel_rfl) (by kernel_rfl) (fun _ _ _ h => h) (by kernel_rfl) (Ext.stable _) hCD (yieldsU_val rfl (fun u hu => by go_simp)) ?_
  refine anyU_takeP (i := 7) (j := 16) (v := .int .i64 r1) 70 [] rfl rfl (by kernel_rfl) (by kernel_rfl) (by kernel_rfl) (fun _ _ _ h => h) (by kernel_rfl) (Ext.stable _) hCD (yieldsU_val rfl (fun u hu => by have cc := (QW.out.below hu QW.out.lt).cell 1; go_simp)) ?_
  refine anyU_takeP (i := 8) (j := 16) (v := .agg #[.int .i64 a1, .int .i64 b1]) 71 [] rfl rfl (by kernel_rfl) (by kernel_rfl) (by kernel_rfl) (fun _ _ _ h => h) (by kernel_rfl) (Ext.stable _) hCD (yieldsU_call rfl 59 _ _ rfl #[.int .i64 k, .int .i64 xp, .int .i64 r1] (by simp [Act.eval, Act.put]) (fun u => by go_simp) (fun u hu => rcipher_is k xp r1 a1 b1 u h1)) ?_
  simp only [Act.put, List.setIfInBounds_toArray, List.set_cons_succ, List.set_cons_zero]
  refine anyU_takeP (i := 9) (j := 16) (v := .pointer (some ⟨w.heap.size, 1, none⟩)) 72 [] rfl rfl (by kernel_rfl) (by kernel_rfl) (by kernel_rfl) (fun _ _ _ h => h) (by kernel_rfl) (Ext.stable _) hCD (yieldsU_val rfl (fun u hu => by go_simp)) ?_
  refine anyU_takeP (i := 10) (j := 16) (v := .int .i64 k) 73 [] rfl rfl (by kernel_rfl) (by kernel_rfl) (by kernel_rfl) (fun _ _ _ h => h) (by kernel_rfl) (Ext.stable _) hCD (yieldsU_val rfl (fun u hu => by obtain ⟨c0, c1, c2, c3⟩ := (XW.out.bel hu).ints; go_simp)) ?_
  refine anyU_takeP (i := 11) (j := 16) (v := .int .i64 xq) 74 [] rfl rfl (by kernel_rfl) (by kernel_rfl) (by kernel_rfl) (fun _ _ _ h => h) (by kernel_rfl) (Ext.stable _) hCD (yieldsU_val rfl (fun u hu => by go_simp)) ?_
  refine anyU_takeP (i := 12) (j := 16) (v := .pointer (some ⟨w.heap.size + 1 + 1, 2, none⟩)) 75 [] rfl rfl (by kernel_rfl) (by kernel_rfl) (by kernel_rfl) (fun _ _ _ h => h) (by kernel_rfl) (Ext.stable _) hCD (yieldsU_val rfl (fun u hu => by go_simp)) ?_
  refine anyU_takeP (i := 13) (j := 16) (v := .int .i64 r2) 76 [] rfl rfl (by kernel_rfl) (by kernel_rfl) (by kernel_rfl) (fun _ _ _ h => h) (by kernel_rfl) (Ext.stable _) hCD (yieldsU_val rfl (fun u hu => by have cc := (QW.out.below hu QW.out.lt).cell 2; go_simp)) ?_
  simp only [Act.put, List.setIfInBounds_toArray, List.set_cons_succ, List.set_cons_zero]
  refine anyU_takeP (i := 14) (j := 16) (v := .agg #[.int .i64 a2, .int .i64 b2]) 77 [] rfl rfl (by kernel_rfl) (by kernel_rfl) (by kernel_rfl) (fun _ _ _ h => h) (by kernel_rfl) (Ext.stable _) hCD (yieldsU_call rfl 59 _ _ rfl #[.int .i64 k, .int .i64 xq, .int .i64 r2] (by simp [Act.eval, Act.put]) (fun u => by go_simp) (fun u hu => rcipher_is k xq r2 a2 b2 u h2)) ?_
  refine anyU_takeP (i := 15) (j := 16) (v := sealedV A B a1 b1 a2 b2) 78 [] rfl rfl (by kernel_rfl) (by kernel_rfl) (by kernel_rfl) (fun _ _ _ h => h) (by kernel_rfl) (Ext.stable _) hCD (yieldsU_val rfl (fun u hu => by go_simp)) ?_
  simp only [Act.put, List.setIfInBounds_toArray, List.set_cons_succ, List.set_cons_zero]
  refine anyU_tail 16 [17] rfl rfl (by decide) (by kernel_rfl) ?_
  intro u3 hu3
  simp only [Act.put, List.filterMap_cons, List.filterMap_nil, List.getElem?_cons_succ, List.getElem?_cons_zero]
  have BU := Lib.hid (bel_trans BW.out hu3)
  have ZU := Lib.hid (ZW.out.below hu3 ZW.out.lt)
  clear hu3
  have z0 := ZU.out.cell 0
  have y0 := ZU.out.frozen 0
  have z1 := ZU.out.cell 1
  have y1 := ZU.out.frozen 1
  have z2 := ZU.out.cell 2
  have y2 := ZU.out.frozen 2
  have z3 := ZU.out.cell 3
  have y3 := ZU.out.frozen 3
  have z4 := ZU.out.cell 4
  have y4 := ZU.out.frozen 4
  have z5 := ZU.out.cell 5
  have y5 := ZU.out.frozen 5
  go_wp2_with fail
  have hJ : Blk ((((((u3.setCell ⟨w.heap.size + 1 + 1 + 1, 0, none⟩ (.int .i64 A)).setCell ⟨w.heap.size + 1 + 1 + 1, 1, none⟩ (.int .i64 B)).setCell ⟨w.heap.size + 1 + 1 + 1, 2, none⟩ (.int .i64 a1)).setCell ⟨w.heap.size + 1 + 1 + 1, 3, none⟩ (.int .i64 b1)).setCell ⟨w.heap.size + 1 + 1 + 1, 4, none⟩ (.int .i64 a2)).setCell ⟨w.heap.size + 1 + 1 + 1, 5, none⟩ (.int .i64 b2)) (w.heap.size + 1 + 1 + 1) #[.int .i64 A, .int .i64 B, .int .i64 a1, .int .i64 b1, .int .i64 a2, .int .i64 b2] 32 := six_stored ZU.out _ _ _ _ _ _
  have hBb : Below w.heap.size w ((((((u3.setCell ⟨w.heap.size + 1 + 1 + 1, 0, none⟩ (.int .i64 A)).setCell ⟨w.heap.size + 1 + 1 + 1, 1, none⟩ (.int .i64 B)).setCell ⟨w.heap.size + 1 + 1 + 1, 2, none⟩ (.int .i64 a1)).setCell ⟨w.heap.size + 1 + 1 + 1, 3, none⟩ (.int .i64 b1)).setCell ⟨w.heap.size + 1 + 1 + 1, 4, none⟩ (.int .i64 a2)).setCell ⟨w.heap.size + 1 + 1 + 1, 5, none⟩ (.int .i64 b2)) := six_below BU.out (by omega) _ _ _ _ _ _
  generalize ((((((u3.setCell ⟨w.heap.size + 1 + 1 + 1, 0, none⟩ (.int .i64 A)).setCell ⟨w.heap.size + 1 + 1 + 1, 1, none⟩ (.int .i64 B)).setCell ⟨w.heap.size + 1 + 1 + 1, 2, none⟩ (.int .i64 a1)).setCell ⟨w.heap.size + 1 + 1 + 1, 3, none⟩ (.int .i64 b1)).setCell ⟨w.heap.size + 1 + 1 + 1, 4, none⟩ (.int .i64 a2)).setCell ⟨w.heap.size + 1 + 1 + 1, 5, none⟩ (.int .i64 b2)) = W2 at hJ hBb ⊢
  obtain ⟨e0, e1, e2, e3, e4, e5⟩ := res6_ret hJ
  refine bodyPost_ret (v := .tuple #[sealedV A B a1 b1 a2 b2, .int .i64 0]) (by simp [results, Tryz.results21, go_sem, e0, e1, e2, e3, e4, e5]) rfl ⟨rfl, hBb⟩
end Go.Proofs.YtpjobllfiimdkaaGreatDoor
