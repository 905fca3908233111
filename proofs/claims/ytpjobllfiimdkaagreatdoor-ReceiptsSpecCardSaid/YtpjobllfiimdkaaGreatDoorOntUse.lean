/- Package onetime: Use. -/
import Derived.Test.YtpjobllfiimdkaaGreatDoorOntChk
import Derived.Test.YtpjobllfiimdkaaGreatDoorOntCip
namespace Go.Proofs.YtpjobllfiimdkaaGreatDoor
open Go.RowKit Go.Shelf
set_option linter.unusedVariables false
set_option linter.unusedSimpArgs false
attribute [local go_sem] Oper.semAt_some
theorem six_stored {W : World} {b : Nat} {t : TypeId} {z0 z1 z2 z3 z4 z5 : Value} (h : Blk W b #[z0, z1, z2, z3, z4, z5] t) (v0 v1 v2 v3 v4 v5 : Value) :
    Blk ((((((W.setCell ⟨b, 0, none⟩ v0).setCell ⟨b, 1, none⟩ v1).setCell ⟨b, 2, none⟩ v2).setCell ⟨b, 3, none⟩ v3).setCell ⟨b, 4, none⟩ v4).setCell ⟨b, 5, none⟩ v5) b #[v0, v1, v2, v3, v4, v5] t :=
  ((((((h.set 0 v0).set 1 v1).set 2 v2).set 3 v3).set 4 v4).set 5 v5)
theorem six_below {w W : World} {m b : Nat} (h : Below m w W) (hb : m ≤ b) (v0 v1 v2 v3 v4 v5 : Value) :
    Below m w ((((((W.setCell ⟨b, 0, none⟩ v0).setCell ⟨b, 1, none⟩ v1).setCell ⟨b, 2, none⟩ v2).setCell ⟨b, 3, none⟩ v3).setCell ⟨b, 4, none⟩ v4).setCell ⟨b, 5, none⟩ v5) :=
  ((((((h.setCell (p := ⟨b, 0, none⟩) hb _).setCell (p := ⟨b, 1, none⟩) hb _).setCell (p := ⟨b, 2, none⟩) hb _).setCell (p := ⟨b, 3, none⟩) hb _).setCell (p := ⟨b, 4, none⟩) hb _).setCell (p := ⟨b, 5, none⟩) hb _)
set_option maxRecDepth 100000 in
set_option maxHeartbeats 4000000 in
theorem ouse_ret (l k a b : Int) (zs : List Int) (p q r0 r1 r2 : Int) (w : World) (hz : Hid (zs.length = 32)) (hk : Hid (KeysAt w)) (hE : Hid (IsRC l k a b zs 160)) :
    Calls Tryz.prog 17 #[.agg (rtv l k a b zs).toArray, .agg #[.int .i64 p, .int .i64 q], .agg #[.int .i64 r0, .int .i64 r1, .int .i64 r2]] w fun e w' => e = .returned (.tuple #[sealedV 0 0 0 0 0 0, .int .i64 160]) ∧ Below w.heap.size w w' := by
  have X0 := Lib.hid (show RBlk ((((w.alloc (.cells (rtv l k a b zs).toArray 29)).alloc (.cells #[.int .i64 p, .int .i64 q] 57)).alloc (.cells #[.int .i64 r0, .int .i64 r1, .int .i64 r2] 22)).alloc (.cells #[.int .i64 0, .int .i64 0, .int .i64 0, .int .i64 0, .int .i64 0, .int .i64 0] 32)) w.heap.size l k a b zs from (((RBlk.box w l k a b hz.out).alloc _).alloc _).alloc _)
  have P0 := Lib.hid (show Blk ((((w.alloc (.cells (rtv l k a b zs).toArray 29)).alloc (.cells #[.int .i64 p, .int .i64 q] 57)).alloc (.cells #[.int .i64 r0, .int .i64 r1, .int .i64 r2] 22)).alloc (.cells #[.int .i64 0, .int .i64 0, .int .i64 0, .int .i64 0, .int .i64 0, .int .i64 0] 32)) (w.heap.size + 1) #[.int .i64 p, .int .i64 q] 57 by
    have h := Blk.new (w.alloc (.cells (rtv l k a b zs).toArray 29)) #[.int .i64 p, .int .i64 q] 57
    simp only [World.size_alloc] at h
    exact (h.alloc _).alloc _)
  have Q0 := Lib.hid (show Blk ((((w.alloc (.cells (rtv l k a b zs).toArray 29)).alloc (.cells #[.int .i64 p, .int .i64 q] 57)).alloc (.cells #[.int .i64 r0, .int .i64 r1, .int .i64 r2] 22)).alloc (.cells #[.int .i64 0, .int .i64 0, .int .i64 0, .int .i64 0, .int .i64 0, .int .i64 0] 32)) (w.heap.size + 1 + 1) #[.int .i64 r0, .int .i64 r1, .int .i64 r2] 22 by
    have h := Blk.new ((w.alloc (.cells (rtv l k a b zs).toArray 29)).alloc (.cells #[.int .i64 p, .int .i64 q] 57)) #[.int .i64 r0, .int .i64 r1, .int .i64 r2] 22
    simp only [World.size_alloc] at h
    exact h.alloc _)
  have Z0 := Lib.hid (show Blk ((((w.alloc (.cells (rtv l k a b zs).toArray 29)).alloc (.cells #[.int .i64 p, .int .i64 q] 57)).alloc (.cells #[.int .i64 r0, .int .i64 r1, .int .i64 r2] 22)).alloc (.cells #[.int .i64 0, .int .i64 0, .int .i64 0, .int .i64 0, .int .i64 0, .int .i64 0] 32)) (w.heap.size + 1 + 1 + 1) #[.int .i64 0, .int .i64 0, .int .i64 0, .int .i64 0, .int .i64 0, .int .i64 0] 32 by
    have h := Blk.new (((w.alloc (.cells (rtv l k a b zs).toArray 29)).alloc (.cells #[.int .i64 p, .int .i64 q] 57)).alloc (.cells #[.int .i64 r0, .int .i64 r1, .int .i64 r2] 22)) #[.int .i64 0, .int .i64 0, .int .i64 0, .int .i64 0, .int .i64 0, .int .i64 0] 32
    simp only [World.size_alloc] at h
    exact h)
  have B0 := Lib.hid (show Below w.heap.size w ((((w.alloc (.cells (rtv l k a b zs).toArray 29)).alloc (.cells #[.int .i64 p, .int .i64 q] 57)).alloc (.cells #[.int .i64 r0, .int .i64 r1, .int .i64 r2] 22)).alloc (.cells #[.int .i64 0, .int .i64 0, .int .i64 0, .int .i64 0, .int .i64 0, .int .i64 0] 32)) from (((bel_alloc1 w _).alloc (by simp) _).alloc (by simp; omega) _).alloc (by simp; omega) _)
  go_enter Tryz.func17, Tryz.ntmps17
  go_upto_region 1 with fail
  generalize World.alloc (World.alloc (World.alloc (World.alloc w _) _) _) _ = W0 at X0 P0 Q0 Z0 B0 ⊢
  have p0 : W0.cell? ⟨w.heap.size + 1, 0, none⟩ = some (.int .i64 p) := P0.out.cell 0
  have p1 : W0.cell? ⟨w.heap.size + 1, 1, none⟩ = some (.int .i64 q) := P0.out.cell 1
  have x1 := X0.out.lt
  go_wp2_with (first
    | (refine list_loadR (by rfl) (.tmp 3) rfl w.heap.size rfl l k a b zs X0.out ?_)
    | (go_at_call 46; refine (ocheck_any l k a b zs 160 _ hz hE (Lib.hid (hk.out.below B0.out))).mono ?_; rintro e w1 ⟨rfl, hb⟩; have B1 := Lib.hid (bel_trans B0.out hb); have X1 := Lib.hid (X0.out.bel hb); have P1 := Lib.hid (P0.out.below hb P0.out.lt); have Q1 := Lib.hid (Q0.out.below hb Q0.out.lt); have Z1 := Lib.hid (Z0.out.below hb Z0.out.lt); have c0 := P1.out.cell 0; have c1 := P1.out.cell 1; have z0 := Z1.out.cell 0; have z1 := Z1.out.cell 1; have z2 := Z1.out.cell 2; have z3 := Z1.out.cell 3; have z4 := Z1.out.cell 4; have z5 := Z1.out.cell 5; have y0 := Z1.out.frozen 0; have y1 := Z1.out.frozen 1; have y2 := Z1.out.frozen 2; have y3 := Z1.out.frozen 3; have y4 := Z1.out.frozen 4; have y5 := Z1.out.frozen 5; clear hb)
  )
  have hJ : Blk ((((((w1.setCell ⟨w.heap.size + 1 + 1 + 1, 0, none⟩ (.int .i64 0)).setCell ⟨w.heap.size + 1 + 1 + 1, 1, none⟩ (.int .i64 0)).setCell ⟨w.heap.size + 1 + 1 + 1, 2, none⟩ (.int .i64 0)).setCell ⟨w.heap.size + 1 + 1 + 1, 3, none⟩ (.int .i64 0)).setCell ⟨w.heap.size + 1 + 1 + 1, 4, none⟩ (.int .i64 0)).setCell ⟨w.heap.size + 1 + 1 + 1, 5, none⟩ (.int .i64 0)) (w.heap.size + 1 + 1 + 1) #[.int .i64 0, .int .i64 0, .int .i64 0, .int .i64 0, .int .i64 0, .int .i64 0] 32 := six_stored Z1.out _ _ _ _ _ _
  have hB : Below w.heap.size w ((((((w1.setCell ⟨w.heap.size + 1 + 1 + 1, 0, none⟩ (.int .i64 0)).setCell ⟨w.heap.size + 1 + 1 + 1, 1, none⟩ (.int .i64 0)).setCell ⟨w.heap.size + 1 + 1 + 1, 2, none⟩ (.int .i64 0)).setCell ⟨w.heap.size + 1 + 1 + 1, 3, none⟩ (.int .i64 0)).setCell ⟨w.heap.size + 1 + 1 + 1, 4, none⟩ (.int .i64 0)).setCell ⟨w.heap.size + 1 + 1 + 1, 5, none⟩ (.int .i64 0)) := six_below B1.out (by omega) _ _ _ _ _ _
  generalize ((((((w1.setCell ⟨w.heap.size + 1 + 1 + 1, 0, none⟩ (.int .i64 0)).setCell ⟨w.heap.size + 1 + 1 + 1, 1, none⟩ (.int .i64 0)).setCell ⟨w.heap.size + 1 + 1 + 1, 2, none⟩ (.int .i64 0)).setCell ⟨w.heap.size + 1 + 1 + 1, 3, none⟩ (.int .i64 0)).setCell ⟨w.heap.size + 1 + 1 + 1, 4, none⟩ (.int .i64 0)).setCell ⟨w.heap.size + 1 + 1 + 1, 5, none⟩ (.int .i64 0)) = W2 at hJ hB ⊢
  obtain ⟨e0, e1, e2, e3, e4, e5⟩ := res6_ret hJ
  refine bodyPost_ret (v := .tuple #[sealedV 0 0 0 0 0 0, .int .i64 160]) (by simp [results, Tryz.f17, go_sem, e0, e1, e2, e3, e4, e5]) rfl ⟨rfl, hB⟩
set_option maxRecDepth 100000 in
set_option maxHeartbeats 4000000 in
theorem ouse_w0 (l k a b : Int) (zs : List Int) (p q r0 r1 r2 : Int) (w : World) (hz : Hid (zs.length = 32)) (hk : Hid (KeysAt w)) (hE : Hid (IsRC l k a b zs 0)) (hp : Hid (wordB p = false)) :
    Calls Tryz.prog 17 #[.agg (rtv l k a b zs).toArray, .agg #[.int .i64 p, .int .i64 q], .agg #[.int .i64 r0, .int .i64 r1, .int .i64 r2]] w fun e w' => e = .returned (.tuple #[sealedV 0 0 0 0 0 0, .int .i64 100]) ∧ Below w.heap.size w w' := by
  have X0 := Lib.hid (show RBlk ((((w.alloc (.cells (rtv l k a b zs).toArray 29)).alloc (.cells #[.int .i64 p, .int .i64 q] 57)).alloc (.cells #[.int .i64 r0, .int .i64 r1, .int .i64 r2] 22)).alloc (.cells #[.int .i64 0, .int .i64 0, .int .i64 0, .int .i64 0, .int .i64 0, .int .i64 0] 32)) w.heap.size l k a b zs from (((RBlk.box w l k a b hz.out).alloc _).alloc _).alloc _)
  have P0 := Lib.hid (show Blk ((((w.alloc (.cells (rtv l k a b zs).toArray 29)).alloc (.cells #[.int .i64 p, .int .i64 q] 57)).alloc (.cells #[.int .i64 r0, .int .i64 r1, .int .i64 r2] 22)).alloc (.cells #[.int .i64 0, .int .i64 0, .int .i64 0, .int .i64 0, .int .i64 0, .int .i64 0] 32)) (w.heap.size + 1) #[.int .i64 p, .int .i64 q] 57 by
    have h := Blk.new (w.alloc (.cells (rtv l k a b zs).toArray 29)) #[.int .i64 p, .int .i64 q] 57
    simp only [World.size_alloc] at h
    exact (h.alloc _).alloc _)
  have Q0 := Lib.hid (show Blk ((((w.alloc (.cells (rtv l k a b zs).toArray 29)).alloc (.cells #[.int .i64 p, .int .i64 q] 57)).alloc (.cells #[.int .i64 r0, .int .i64 r1, .int .i64 r2] 22)).alloc (.cells #[.int .i64 0, .int .i64 0, .int .i64 0, .int .i64 0, .int .i64 0, .int .i64 0] 32)) (w.heap.size + 1 + 1) #[.int .i64 r0, .int .i64 r1, .int .i64 r2] 22 by
    have h := Blk.new ((w.alloc (.cells (rtv l k a b zs).toArray 29)).alloc (.cells #[.int .i64 p, .int .i64 q] 57)) #[.int .i64 r0, .int .i64 r1, .int .i64 r2] 22
    simp only [World.size_alloc] at h
    exact h.alloc _)
  have Z0 := Lib.hid (show Blk ((((w.alloc (.cells (rtv l k a b zs).toArray 29)).alloc (.cells #[.int .i64 p, .int .i64 q] 57)).alloc (.cells #[.int .i64 r0, .int .i64 r1, .int .i64 r2] 22)).alloc (.cells #[.int .i64 0, .int .i64 0, .int .i64 0, .int .i64 0, .int .i64 0, .int .i64 0] 32)) (w.heap.size + 1 + 1 + 1) #[.int .i64 0, .int .i64 0, .int .i64 0, .int .i64 0, .int .i64 0, .int .i64 0] 32 by
    have h := Blk.new (((w.alloc (.cells (rtv l k a b zs).toArray 29)).alloc (.cells #[.int .i64 p, .int .i64 q] 57)).alloc (.cells #[.int .i64 r0, .int .i64 r1, .int .i64 r2] 22)) #[.int .i64 0, .int .i64 0, .int .i64 0, .int .i64 0, .int .i64 0, .int .i64 0] 32
    simp only [World.size_alloc] at h
    exact h)
  have B0 := Lib.hid (show Below w.heap.size w ((((w.alloc (.cells (rtv l k a b zs).toArray 29)).alloc (.cells #[.int .i64 p, .int .i64 q] 57)).alloc (.cells #[.int .i64 r0, .int .i64 r1, .int .i64 r2] 22)).alloc (.cells #[.int .i64 0, .int .i64 0, .int .i64 0, .int .i64 0, .int .i64 0, .int .i64 0] 32)) from (((bel_alloc1 w _).alloc (by simp) _).alloc (by simp; omega) _).alloc (by simp; omega) _)
  go_enter Tryz.func17, Tryz.ntmps17
  go_upto_region 1 with fail
  generalize World.alloc (World.alloc (World.alloc (World.alloc w _) _) _) _ = W0 at X0 P0 Q0 Z0 B0 ⊢
  have p0 : W0.cell? ⟨w.heap.size + 1, 0, none⟩ = some (.int .i64 p) := P0.out.cell 0
  have p1 : W0.cell? ⟨w.heap.size + 1, 1, none⟩ = some (.int .i64 q) := P0.out.cell 1
  have x1 := X0.out.lt
  go_wp2_with (first
    | (refine list_loadR (by rfl) (.tmp 3) rfl w.heap.size rfl l k a b zs X0.out ?_)
    | (go_at_call 46; refine (ocheck_any l k a b zs 0 _ hz hE (Lib.hid (hk.out.below B0.out))).mono ?_; rintro e w1 ⟨rfl, hb⟩; have B1 := Lib.hid (bel_trans B0.out hb); have X1 := Lib.hid (X0.out.bel hb); have P1 := Lib.hid (P0.out.below hb P0.out.lt); have Q1 := Lib.hid (Q0.out.below hb Q0.out.lt); have Z1 := Lib.hid (Z0.out.below hb Z0.out.lt); have c0 := P1.out.cell 0; have c1 := P1.out.cell 1; have z0 := Z1.out.cell 0; have z1 := Z1.out.cell 1; have z2 := Z1.out.cell 2; have z3 := Z1.out.cell 3; have z4 := Z1.out.cell 4; have z5 := Z1.out.cell 5; have y0 := Z1.out.frozen 0; have y1 := Z1.out.frozen 1; have y2 := Z1.out.frozen 2; have y3 := Z1.out.frozen 3; have y4 := Z1.out.frozen 4; have y5 := Z1.out.frozen 5; clear hb)
    | (go_at_call 26; refine (oword_any p _).mono ?_; rintro e w' ⟨rfl, rfl⟩; rw [hp.out])
  )
  have hJ : Blk ((((((w1.setCell ⟨w.heap.size + 1 + 1 + 1, 0, none⟩ (.int .i64 0)).setCell ⟨w.heap.size + 1 + 1 + 1, 1, none⟩ (.int .i64 0)).setCell ⟨w.heap.size + 1 + 1 + 1, 2, none⟩ (.int .i64 0)).setCell ⟨w.heap.size + 1 + 1 + 1, 3, none⟩ (.int .i64 0)).setCell ⟨w.heap.size + 1 + 1 + 1, 4, none⟩ (.int .i64 0)).setCell ⟨w.heap.size + 1 + 1 + 1, 5, none⟩ (.int .i64 0)) (w.heap.size + 1 + 1 + 1) #[.int .i64 0, .int .i64 0, .int .i64 0, .int .i64 0, .int .i64 0, .int .i64 0] 32 := six_stored Z1.out _ _ _ _ _ _
  have hB : Below w.heap.size w ((((((w1.setCell ⟨w.heap.size + 1 + 1 + 1, 0, none⟩ (.int .i64 0)).setCell ⟨w.heap.size + 1 + 1 + 1, 1, none⟩ (.int .i64 0)).setCell ⟨w.heap.size + 1 + 1 + 1, 2, none⟩ (.int .i64 0)).setCell ⟨w.heap.size + 1 + 1 + 1, 3, none⟩ (.int .i64 0)).setCell ⟨w.heap.size + 1 + 1 + 1, 4, none⟩ (.int .i64 0)).setCell ⟨w.heap.size + 1 + 1 + 1, 5, none⟩ (.int .i64 0)) := six_below B1.out (by omega) _ _ _ _ _ _
  generalize ((((((w1.setCell ⟨w.heap.size + 1 + 1 + 1, 0, none⟩ (.int .i64 0)).setCell ⟨w.heap.size + 1 + 1 + 1, 1, none⟩ (.int .i64 0)).setCell ⟨w.heap.size + 1 + 1 + 1, 2, none⟩ (.int .i64 0)).setCell ⟨w.heap.size + 1 + 1 + 1, 3, none⟩ (.int .i64 0)).setCell ⟨w.heap.size + 1 + 1 + 1, 4, none⟩ (.int .i64 0)).setCell ⟨w.heap.size + 1 + 1 + 1, 5, none⟩ (.int .i64 0)) = W2 at hJ hB ⊢
  obtain ⟨e0, e1, e2, e3, e4, e5⟩ := res6_ret hJ
  refine bodyPost_ret (v := .tuple #[sealedV 0 0 0 0 0 0, .int .i64 100]) (by simp [results, Tryz.f17, go_sem, e0, e1, e2, e3, e4, e5]) rfl ⟨rfl, hB⟩
set_option maxRecDepth 100000 in
set_option maxHeartbeats 4000000 in
theorem ouse_w1 (l k a b : Int) (zs : List Int) (p q r0 r1 r2 : Int) (w : World) (hz : Hid (zs.length = 32)) (hk : Hid (KeysAt w)) (hE : Hid (IsRC l k a b zs 0)) (hp : Hid (wordB p = true)) (hq : Hid (wordB q = false)) :
    Calls Tryz.prog 17 #[.agg (rtv l k a b zs).toArray, .agg #[.int .i64 p, .int .i64 q], .agg #[.int .i64 r0, .int .i64 r1, .int .i64 r2]] w fun e w' => e = .returned (.tuple #[sealedV 0 0 0 0 0 0, .int .i64 100]) ∧ Below w.heap.size w w' := by
  have X0 := Lib.hid (show RBlk ((((w.alloc (.cells (rtv l k a b zs).toArray 29)).alloc (.cells #[.int .i64 p, .int .i64 q] 57)).alloc (.cells #[.int .i64 r0, .int .i64 r1, .int .i64 r2] 22)).alloc (.cells #[.int .i64 0, .int .i64 0, .int .i64 0, .int .i64 0, .int .i64 0, .int .i64 0] 32)) w.heap.size l k a b zs from (((RBlk.box w l k a b hz.out).alloc _).alloc _).alloc _)
  have P0 := Lib.hid (show Blk ((((w.alloc (.cells (rtv l k a b zs).toArray 29)).alloc (.cells #[.int .i64 p, .int .i64 q] 57)).alloc (.cells #[.int .i64 r0, .int .i64 r1, .int .i64 r2] 22)).alloc (.cells #[.int .i64 0, .int .i64 0, .int .i64 0, .int .i64 0, .int .i64 0, .int .i64 0] 32)) (w.heap.size + 1) #[.int .i64 p, .int .i64 q] 57 by
    have h := Blk.new (w.alloc (.cells (rtv l k a b zs).toArray 29)) #[.int .i64 p, .int .i64 q] 57
    simp only [World.size_alloc] at h
    exact (h.alloc _).alloc _)
  have Q0 := Lib.hid (show Blk ((((w.alloc (.cells (rtv l k a b zs).toArray 29)).alloc (.cells #[.int .i64 p, .int .i64 q] 57)).alloc (.cells #[.int .i64 r0, .int .i64 r1, .int .i64 r2] 22)).alloc (.cells #[.int .i64 0, .int .i64 0, .int .i64 0, .int .i64 0, .int .i64 0, .int .i64 0] 32)) (w.heap.size + 1 + 1) #[.int .i64 r0, .int .i64 r1, .int .i64 r2] 22 by
    have h := Blk.new ((w.alloc (.cells (rtv l k a b zs).toArray 29)).alloc (.cells #[.int .i64 p, .int .i64 q] 57)) #[.int .i64 r0, .int .i64 r1, .int .i64 r2] 22
    simp only [World.size_alloc] at h
    exact h.alloc _)
  have Z0 := Lib.hid (show Blk ((((w.alloc (.cells (rtv l k a b zs).toArray 29)).alloc (.cells #[.int .i64 p, .int .i64 q] 57)).alloc (.cells #[.int .i64 r0, .int .i64 r1, .int .i64 r2] 22)).alloc (.cells #[.int .i64 0, .int .i64 0, .int .i64 0, .int .i64 0, .int .i64 0, .int .i64 0] 32)) (w.heap.size + 1 + 1 + 1) #[.int .i64 0, .int .i64 0, .int .i64 0, .int .i64 0, .int .i64 0, .int .i64 0] 32 by
    have h := Blk.new (((w.alloc (.cells (rtv l k a b zs).toArray 29)).alloc (.cells #[.int .i64 p, .int .i64 q] 57)).alloc (.cells #[.int .i64 r0, .int .i64 r1, .int .i64 r2] 22)) #[.int .i64 0, .int .i64 0, .int .i64 0, .int .i64 0, .int .i64 0, .int .i64 0] 32
    simp only [World.size_alloc] at h
    exact h)
  have B0 := Lib.hid (show Below w.heap.size w ((((w.alloc (.cells (rtv l k a b zs).toArray 29)).alloc (.cells #[.int .i64 p, .int .i64 q] 57)).alloc (.cells #[.int .i64 r0, .int .i64 r1, .int .i64 r2] 22)).alloc (.cells #[.int .i64 0, .int .i64 0, .int .i64 0, .int .i64 0, .int .i64 0, .int .i64 0] 32)) from (((bel_alloc1 w _).alloc (by simp) _).alloc (by simp; omega) _).alloc (by simp; omega) _)
  go_enter Tryz.func17, Tryz.ntmps17
  go_upto_region 1 with fail
  generalize World.alloc (World.alloc (World.alloc (World.alloc w _) _) _) _ = W0 at X0 P0 Q0 Z0 B0 ⊢
  have p0 : W0.cell? ⟨w.heap.size + 1, 0, none⟩ = some (.int .i64 p) := P0.out.cell 0
  have p1 : W0.cell? ⟨w.heap.size + 1, 1, none⟩ = some (.int .i64 q) := P0.out.cell 1
  have x1 := X0.out.lt
  go_wp2_with (first
    | (refine list_loadR (by rfl) (.tmp 3) rfl w.heap.size rfl l k a b zs X0.out ?_)
    | (go_at_call 46; refine (ocheck_any l k a b zs 0 _ hz hE (Lib.hid (hk.out.below B0.out))).mono ?_; rintro e w1 ⟨rfl, hb⟩; have B1 := Lib.hid (bel_trans B0.out hb); have X1 := Lib.hid (X0.out.bel hb); have P1 := Lib.hid (P0.out.below hb P0.out.lt); have Q1 := Lib.hid (Q0.out.below hb Q0.out.lt); have Z1 := Lib.hid (Z0.out.below hb Z0.out.lt); have c0 := P1.out.cell 0; have c1 := P1.out.cell 1; have z0 := Z1.out.cell 0; have z1 := Z1.out.cell 1; have z2 := Z1.out.cell 2; have z3 := Z1.out.cell 3; have z4 := Z1.out.cell 4; have z5 := Z1.out.cell 5; have y0 := Z1.out.frozen 0; have y1 := Z1.out.frozen 1; have y2 := Z1.out.frozen 2; have y3 := Z1.out.frozen 3; have y4 := Z1.out.frozen 4; have y5 := Z1.out.frozen 5; clear hb)
    | (go_at_call 26; refine (oword_any p _).mono ?_; rintro e w' ⟨rfl, rfl⟩; rw [hp.out])
    | (go_at_call 26; refine (oword_any q _).mono ?_; rintro e w' ⟨rfl, rfl⟩; rw [hq.out])
  )
  have hJ : Blk ((((((w1.setCell ⟨w.heap.size + 1 + 1 + 1, 0, none⟩ (.int .i64 0)).setCell ⟨w.heap.size + 1 + 1 + 1, 1, none⟩ (.int .i64 0)).setCell ⟨w.heap.size + 1 + 1 + 1, 2, none⟩ (.int .i64 0)).setCell ⟨w.heap.size + 1 + 1 + 1, 3, none⟩ (.int .i64 0)).setCell ⟨w.heap.size + 1 + 1 + 1, 4, none⟩ (.int .i64 0)).setCell ⟨w.heap.size + 1 + 1 + 1, 5, none⟩ (.int .i64 0)) (w.heap.size + 1 + 1 + 1) #[.int .i64 0, .int .i64 0, .int .i64 0, .int .i64 0, .int .i64 0, .int .i64 0] 32 := six_stored Z1.out _ _ _ _ _ _
  have hB : Below w.heap.size w ((((((w1.setCell ⟨w.heap.size + 1 + 1 + 1, 0, none⟩ (.int .i64 0)).setCell ⟨w.heap.size + 1 + 1 + 1, 1, none⟩ (.int .i64 0)).setCell ⟨w.heap.size + 1 + 1 + 1, 2, none⟩ (.int .i64 0)).setCell ⟨w.heap.size + 1 + 1 + 1, 3, none⟩ (.int .i64 0)).setCell ⟨w.heap.size + 1 + 1 + 1, 4, none⟩ (.int .i64 0)).setCell ⟨w.heap.size + 1 + 1 + 1, 5, none⟩ (.int .i64 0)) := six_below B1.out (by omega) _ _ _ _ _ _
  generalize ((((((w1.setCell ⟨w.heap.size + 1 + 1 + 1, 0, none⟩ (.int .i64 0)).setCell ⟨w.heap.size + 1 + 1 + 1, 1, none⟩ (.int .i64 0)).setCell ⟨w.heap.size + 1 + 1 + 1, 2, none⟩ (.int .i64 0)).setCell ⟨w.heap.size + 1 + 1 + 1, 3, none⟩ (.int .i64 0)).setCell ⟨w.heap.size + 1 + 1 + 1, 4, none⟩ (.int .i64 0)).setCell ⟨w.heap.size + 1 + 1 + 1, 5, none⟩ (.int .i64 0)) = W2 at hJ hB ⊢
  obtain ⟨e0, e1, e2, e3, e4, e5⟩ := res6_ret hJ
  refine bodyPost_ret (v := .tuple #[sealedV 0 0 0 0 0 0, .int .i64 100]) (by simp [results, Tryz.f17, go_sem, e0, e1, e2, e3, e4, e5]) rfl ⟨rfl, hB⟩
set_option maxRecDepth 100000 in
set_option maxHeartbeats 4000000 in
theorem ouse_ok (l k a b : Int) (zs : List Int) (p q r0 r1 r2 : Int) (w : World) (hz : Hid (zs.length = 32)) (hk : Hid (KeysAt w)) (hE : Hid (IsRC l k a b zs 0)) (hp : Hid (wordB p = true)) (hq : Hid (wordB q = true)) (hke : Hid (elB k = true)) (HW : Hid (wordB 1 = true ∧ wordB p = true ∧ wordB q = true)) (a0 b0 a1 b1 a2 b2 A B : Int) (h0 : Hid (IsCip k (elmZ 1) r0 a0 b0)) (h1 : Hid (IsCip k (elmZ p) r1 a1 b1)) (h2 : Hid (IsCip k (elmZ q) r2 a2 b2)) (hA : Hid (mulZ a a0 = A)) (hB : Hid (mulZ b b0 = B)) :
    Calls Tryz.prog 17 #[.agg (rtv l k a b zs).toArray, .agg #[.int .i64 p, .int .i64 q], .agg #[.int .i64 r0, .int .i64 r1, .int .i64 r2]] w fun e w' => e = .returned (.tuple #[sealedV A B a1 b1 a2 b2, .int .i64 0]) ∧ Below w.heap.size w w' := by
  have X0 := Lib.hid (show RBlk ((((w.alloc (.cells (rtv l k a b zs).toArray 29)).alloc (.cells #[.int .i64 p, .int .i64 q] 57)).alloc (.cells #[.int .i64 r0, .int .i64 r1, .int .i64 r2] 22)).alloc (.cells #[.int .i64 0, .int .i64 0, .int .i64 0, .int .i64 0, .int .i64 0, .int .i64 0] 32)) w.heap.size l k a b zs from (((RBlk.box w l k a b hz.out).alloc _).alloc _).alloc _)
  have P0 := Lib.hid (show Blk ((((w.alloc (.cells (rtv l k a b zs).toArray 29)).alloc (.cells #[.int .i64 p, .int .i64 q] 57)).alloc (.cells #[.int .i64 r0, .int .i64 r1, .int .i64 r2] 22)).alloc (.cells #[.int .i64 0, .int .i64 0, .int .i64 0, .int .i64 0, .int .i64 0, .int .i64 0] 32)) (w.heap.size + 1) #[.int .i64 p, .int .i64 q] 57 by
    have h := Blk.new (w.alloc (.cells (rtv l k a b zs).toArray 29)) #[.int .i64 p, .int .i64 q] 57
    simp only [World.size_alloc] at h
    exact (h.alloc _).alloc _)
  have Q0 := Lib.hid (show Blk ((((w.alloc (.cells (rtv l k a b zs).toArray 29)).alloc (.cells #[.int .i64 p, .int .i64 q] 57)).alloc (.cells #[.int .i64 r0, .int .i64 r1, .int .i64 r2] 22)).alloc (.cells #[.int .i64 0, .int .i64 0, .int .i64 0, .int .i64 0, .int .i64 0, .int .i64 0] 32)) (w.heap.size + 1 + 1) #[.int .i64 r0, .int .i64 r1, .int .i64 r2] 22 by
    have h := Blk.new ((w.alloc (.cells (rtv l k a b zs).toArray 29)).alloc (.cells #[.int .i64 p, .int .i64 q] 57)) #[.int .i64 r0, .int .i64 r1, .int .i64 r2] 22
    simp only [World.size_alloc] at h
    exact h.alloc _)
  have Z0 := Lib.hid (show Blk ((((w.alloc (.cells (rtv l k a b zs).toArray 29)).alloc (.cells #[.int .i64 p, .int .i64 q] 57)).alloc (.cells #[.int .i64 r0, .int .i64 r1, .int .i64 r2] 22)).alloc (.cells #[.int .i64 0, .int .i64 0, .int .i64 0, .int .i64 0, .int .i64 0, .int .i64 0] 32)) (w.heap.size + 1 + 1 + 1) #[.int .i64 0, .int .i64 0, .int .i64 0, .int .i64 0, .int .i64 0, .int .i64 0] 32 by
    have h := Blk.new (((w.alloc (.cells (rtv l k a b zs).toArray 29)).alloc (.cells #[.int .i64 p, .int .i64 q] 57)).alloc (.cells #[.int .i64 r0, .int .i64 r1, .int .i64 r2] 22)) #[.int .i64 0, .int .i64 0, .int .i64 0, .int .i64 0, .int .i64 0, .int .i64 0] 32
    simp only [World.size_alloc] at h
    exact h)
  have B0 := Lib.hid (show Below w.heap.size w ((((w.alloc (.cells (rtv l k a b zs).toArray 29)).alloc (.cells #[.int .i64 p, .int .i64 q] 57)).alloc (.cells #[.int .i64 r0, .int .i64 r1, .int .i64 r2] 22)).alloc (.cells #[.int .i64 0, .int .i64 0, .int .i64 0, .int .i64 0, .int .i64 0, .int .i64 0] 32)) from (((bel_alloc1 w _).alloc (by simp) _).alloc (by simp; omega) _).alloc (by simp; omega) _)
  refine (callsIn_wide (n := 5)).1 (callsIn_of_wp_marks Tryz.func17 rfl trivial ?_ rfl)
  simp only [Tryz.ntmps17, List.size_toArray, List.length_cons, List.length_nil, Nat.reduceAdd, Nat.reduceSub, Array.replicate_succ, Array.replicate_zero, List.push_toArray, List.append_toArray, List.nil_append, List.cons_append]
  refine wpIn_wide.2 ?_
  go_upto_region 1 with fail
  generalize World.alloc (World.alloc (World.alloc (World.alloc w _) _) _) _ = W0 at X0 P0 Q0 Z0 B0 ⊢
  have p0 : W0.cell? ⟨w.heap.size + 1, 0, none⟩ = some (.int .i64 p) := P0.out.cell 0
  have p1 : W0.cell? ⟨w.heap.size + 1, 1, none⟩ = some (.int .i64 q) := P0.out.cell 1
  have x1 := X0.out.lt
  go_upto_region 6 with (first
    | (refine list_loadR (by rfl) (.tmp 3) rfl w.heap.size rfl l k a b zs X0.out ?_)
    | (go_at_call 46; refine (ocheck_any l k a b zs 0 _ hz hE (Lib.hid (hk.out.below B0.out))).mono ?_; rintro e w1 ⟨rfl, hb⟩; have B1 := Lib.hid (bel_trans B0.out hb); have X1 := Lib.hid (X0.out.bel hb); have P1 := Lib.hid (P0.out.below hb P0.out.lt); have Q1 := Lib.hid (Q0.out.below hb Q0.out.lt); have Z1 := Lib.hid (Z0.out.below hb Z0.out.lt); have c0 := P1.out.cell 0; have c1 := P1.out.cell 1; have z0 := Z1.out.cell 0; have z1 := Z1.out.cell 1; have z2 := Z1.out.cell 2; have z3 := Z1.out.cell 3; have z4 := Z1.out.cell 4; have z5 := Z1.out.cell 5; have y0 := Z1.out.frozen 0; have y1 := Z1.out.frozen 1; have y2 := Z1.out.frozen 2; have y3 := Z1.out.frozen 3; have y4 := Z1.out.frozen 4; have y5 := Z1.out.frozen 5; obtain ⟨i0, i1, i2, i3⟩ := X1.out.ints; have q0 := Q1.out.cell 0; have q1 := Q1.out.cell 1; have q2 := Q1.out.cell 2; clear hb)
    | (go_at_call 26; refine (oword_any p _).mono ?_; rintro e w' ⟨rfl, rfl⟩; rw [hp.out])
    | (go_at_call 26; refine (oword_any q _).mono ?_; rintro e w' ⟨rfl, rfl⟩; rw [hq.out])
    | (go_at_call 27; refine (seal_is k 1 p q r0 r1 r2 a0 b0 a1 b1 a2 b2 _ hke HW h0 h1 h2).mono ?_; rintro e w2 ⟨rfl, hb⟩; have B2 := Lib.hid (bel_trans B1.out hb); have X2 := Lib.hid (X1.out.bel hb); have Z2 := Lib.hid (Z1.out.below hb Z1.out.lt); clear hb))
  have S3 := Lib.hid (Blk.new w2 #[.int .i64 a0, .int .i64 b0, .int .i64 a1, .int .i64 b1, .int .i64 a2, .int .i64 b2] 32)
  have X3 := Lib.hid (X2.out.alloc (.cells #[.int .i64 a0, .int .i64 b0, .int .i64 a1, .int .i64 b1, .int .i64 a2, .int .i64 b2] 32))
  have Z3 := Lib.hid (Z2.out.alloc (.cells #[.int .i64 a0, .int .i64 b0, .int .i64 a1, .int .i64 b1, .int .i64 a2, .int .i64 b2] 32))
  have B3 := Lib.hid (B2.out.trans (Below.mono (bel_alloc1 w2 (.cells #[.int .i64 a0, .int .i64 b0, .int .i64 a1, .int .i64 b1, .int .i64 a2, .int .i64 b2] 32)) B2.out.size))
  generalize World.alloc w2 _ = w3 at S3 X3 Z3 B3 ⊢
  generalize w2.heap.size = eb at S3 ⊢
  have e0 := S3.out.cell 0
  have e1 := S3.out.cell 1
  have e2 := S3.out.cell 2
  have e3 := S3.out.cell 3
  have e4 := S3.out.cell 4
  have e5 := S3.out.cell 5
  obtain ⟨rb, hrb⟩ : ∃ n, w3.heap.size = n := ⟨_, rfl⟩
  have lt3 := Z3.out.lt
  go_wp2_with (first
    | (refine list_loadR (by rfl) (.tmp 3) rfl w.heap.size rfl l k a b zs X3.out ?_)
    | (go_at_call 47; refine (ocip_fn l k a b zs a0 b0 a1 b1 a2 b2 rb _ hrb hz).mono ?_; rintro e w4 ⟨rfl, hb, hx4, hs4⟩; have B4 := Lib.hid (bel_trans B3.out hb); have X4 := Lib.hid hx4; have S4 := Lib.hid hs4; have Z4 := Lib.hid (Z3.out.below hb Z3.out.lt); clear hb hx4 hs4))
  rw [hrb] at lt3
  clear e0 e1 e2 e3 e4 e5 hrb
  have lts := S4.out.lt
  refine (wpIn_wide (n := 5)).1 ?_
  refine wpIn_rangeFunc_ownH rfl (by omega) (gf := 76) (lb := #[.pointer (some ⟨rb, 0, none⟩), .pointer (some ⟨rb + 1, 0, none⟩)]) rfl trivial (enters_of Tryz.func76 (by kernel_rfl) rfl)
    (ociphers_stops l k a b zs a0 b0 a1 b1 a2 b2 A B hA hB 4 (by omega) rb (rb + 1) w4 X4 S4) keepsB_t (fun W l o o' hl _ _ _ => World.putObj_heap_other (by omega)) (Below.refl _ _) (fun _ => rfl)
    (fun pre W => (Blk W (w.heap.size + 1 + 1 + 1) (outC (fun _ _ c => c) 0 pre) 32 ∧ Blk W (rb + 1) #[.int .i64 a0, .int .i64 b0, .int .i64 a1, .int .i64 b1, .int .i64 a2, .int .i64 b2] 32) ∧ Below w.heap.size w W)
    (fun _ _ _ => False)
    (OwnFrom.and (OwnFrom.and (blk_own (outC (fun _ _ c => c) 0)) (blk_own fun _ => _)) (ownFrom_below (Nat.le_refl _) B4.out.size))
    (fun _ _ _ _ _ hs _ _ => hs)
    ⟨⟨Z4.out, S4.out⟩, B4.out⟩
    (fun x a' W => ∃ Bc, (w.heap.size + 1 + 1 + 1) < Bc ∧ Blk W Bc #[.int .i64 x.2.1, .int .i64 x.2.2] 25 ∧ a' = { tmps := #[.agg (rtv l k a b zs).toArray, .agg #[.int .i64 p, .int .i64 q], .agg #[.int .i64 r0, .int .i64 r1, .int .i64 r2], .pointer (some ⟨w.heap.size, 0, none⟩), .pointer (some ⟨w.heap.size + 1, 0, none⟩), .pointer (some ⟨w.heap.size + 1 + 1, 0, none⟩), .pointer (some ⟨w.heap.size + 1 + 1 + 1, 0, none⟩), .int .i64 0, .pointer (some ⟨eb, 0, none⟩), .int .i64 0, .int .i64 (x.1.val : Int), .pointer (some ⟨Bc, 0, none⟩), .bool false, .agg (rtv l k a b zs).toArray, .int .i64 0, .bool false, undef, .bool false, .pointer (some ⟨w.heap.size + 1, 0, none⟩), .int .i64 p, .bool true, .bool false, .bool false, .pointer (some ⟨w.heap.size + 1, 1, none⟩), .int .i64 q, .bool true, .bool false, .bool false, undef, .tuple #[sealedV a0 b0 a1 b1 a2 b2, .int .i64 0], .pointer (some ⟨w.heap.size, 1, none⟩), .int .i64 k, .pointer (some ⟨w.heap.size + 1, 0, none⟩), .int .i64 p, .pointer (some ⟨w.heap.size + 1, 1, none⟩), .int .i64 q, .agg #[.int .i64 1, .int .i64 p, .int .i64 q], .agg #[.int .i64 r0, .int .i64 r1, .int .i64 r2], .tuple #[sealedV a0 b0 a1 b1 a2 b2, .int .i64 0], sealedV a0 b0 a1 b1 a2 b2, .int .i64 0, .agg (rtv l k a b zs).toArray, sealedV a0 b0 a1 b1 a2 b2, .func (.func 76) #[] #[.pointer (some ⟨rb, 0, none⟩), .pointer (some ⟨rb + 1, 0, none⟩)], .int .i64 (x.1.val : Int), .agg #[.int .i64 x.2.1, .int .i64 x.2.2], undef, undef, undef, undef], defers := [] })
    (fun x a' s X Y row h hg hr => by
      obtain ⟨Bc, h1, h2, h3⟩ := h
      exact ⟨Bc, h1, (blk_own (β := Unit) (B := w4.heap.size) fun _ => _) s X Y row h2 hg hr, h3⟩) ?assign ?body ?done ?stop
  case assign =>
    rintro lo pre x W K ⟨⟨j1, j2⟩, hB⟩ hK
    gi_wp2
    exact hK _ _ ((KeepsOthers.alloc _ _).from _) (Below.heap_alloc W _ _ j2.lt) ⟨⟨j1.alloc _, j2.alloc _⟩, hB.alloc hB.size _⟩ ⟨W.heap.size, j1.lt, Blk.new _ _ _, rfl⟩
  case body =>
    rintro lo pre ⟨i, xa, xb⟩ a' W hl hr ⟨⟨j1, j2⟩, hB⟩ ⟨Bc, hBc, jc, rfl⟩ hlt
    have HSN := Lib.hid (outC_snoc (fun _ _ c => c) 0 pre (i, xa, xb))
    have J1 := Lib.hid j1; have J2 := Lib.hid j2; have HBW := Lib.hid hB
    have c0 := jc.cell 0
    have c1 := jc.cell 1
    have hz6 := outC_size (fun _ _ c => c) 0 pre
    have e0 := fun o => j1.cell o
    have hfr := fun o => j1.frozen o
    simp at c0 c1
    obtain ⟨iv, hiv⟩ := i
    have hiv2 : iv = 0 ∨ iv = 1 ∨ iv = 2 := by omega
    clear j1 j2 jc hB hl hr hlt
    rcases hiv2 with rfl | rfl | rfl
    · have g0 := rc_some (w := W) (a := ⟨w.heap.size + 1 + 1 + 1, 0, none⟩) (by rw [e0]; exact ⟨_, Array.getElem?_eq_getElem (by omega)⟩)
      have g1 := rc_some (w := W) (a := ⟨w.heap.size + 1 + 1 + 1, 1, none⟩) (by rw [e0]; exact ⟨_, Array.getElem?_eq_getElem (by omega)⟩)
      have f0 := hfr 0
      have f1 := hfr 1
      clear e0 hfr hz6
      dsimp only
      gi_wp2
      refine ⟨((KeepsOthers.setCell _ _ _).trans (KeepsOthers.setCell _ _ _)).from _, (show KeepsB (rb + 1) W ((W.setCell ⟨w.heap.size + 1 + 1 + 1, 0, none⟩ (.int .i64 xa)).setCell ⟨w.heap.size + 1 + 1 + 1, 1, none⟩ (.int .i64 xb)) from (Below.heap_setCell _ _ _ _ (by show rb + 1 ≠ w.heap.size + 1 + 1 + 1; omega)).trans (Below.heap_setCell _ _ _ _ (by show rb + 1 ≠ w.heap.size + 1 + 1 + 1; omega))), ⟨⟨by rw [show outC (fun _ _ c => c) 0 (pre ++ [((0 : Fin 3), xa, xb)]) = _ from HSN.out]; exact (J1.out.set 0 _).set 1 _, (J2.out.other 0 _ (by omega)).other 1 _ (by omega)⟩, (HBW.out.setCell (p := ⟨w.heap.size + 1 + 1 + 1, 0, none⟩) (by simp; omega) _).setCell (p := ⟨w.heap.size + 1 + 1 + 1, 1, none⟩) (by simp; omega) _⟩⟩
    · have g0 := rc_some (w := W) (a := ⟨w.heap.size + 1 + 1 + 1, 2, none⟩) (by rw [e0]; exact ⟨_, Array.getElem?_eq_getElem (by omega)⟩)
      have g1 := rc_some (w := W) (a := ⟨w.heap.size + 1 + 1 + 1, 3, none⟩) (by rw [e0]; exact ⟨_, Array.getElem?_eq_getElem (by omega)⟩)
      have f0 := hfr 2
      have f1 := hfr 3
      clear e0 hfr hz6
      dsimp only
      gi_wp2
      refine ⟨((KeepsOthers.setCell _ _ _).trans (KeepsOthers.setCell _ _ _)).from _, (show KeepsB (rb + 1) W ((W.setCell ⟨w.heap.size + 1 + 1 + 1, 2, none⟩ (.int .i64 xa)).setCell ⟨w.heap.size + 1 + 1 + 1, 3, none⟩ (.int .i64 xb)) from (Below.heap_setCell _ _ _ _ (by show rb + 1 ≠ w.heap.size + 1 + 1 + 1; omega)).trans (Below.heap_setCell _ _ _ _ (by show rb + 1 ≠ w.heap.size + 1 + 1 + 1; omega))), ⟨⟨by rw [show outC (fun _ _ c => c) 0 (pre ++ [((1 : Fin 3), xa, xb)]) = _ from HSN.out]; exact (J1.out.set 2 _).set 3 _, (J2.out.other 2 _ (by omega)).other 3 _ (by omega)⟩, (HBW.out.setCell (p := ⟨w.heap.size + 1 + 1 + 1, 2, none⟩) (by simp; omega) _).setCell (p := ⟨w.heap.size + 1 + 1 + 1, 3, none⟩) (by simp; omega) _⟩⟩
    · have g0 := rc_some (w := W) (a := ⟨w.heap.size + 1 + 1 + 1, 4, none⟩) (by rw [e0]; exact ⟨_, Array.getElem?_eq_getElem (by omega)⟩)
      have g1 := rc_some (w := W) (a := ⟨w.heap.size + 1 + 1 + 1, 5, none⟩) (by rw [e0]; exact ⟨_, Array.getElem?_eq_getElem (by omega)⟩)
      have f0 := hfr 4
      have f1 := hfr 5
      clear e0 hfr hz6
      dsimp only
      gi_wp2
      refine ⟨((KeepsOthers.setCell _ _ _).trans (KeepsOthers.setCell _ _ _)).from _, (show KeepsB (rb + 1) W ((W.setCell ⟨w.heap.size + 1 + 1 + 1, 4, none⟩ (.int .i64 xa)).setCell ⟨w.heap.size + 1 + 1 + 1, 5, none⟩ (.int .i64 xb)) from (Below.heap_setCell _ _ _ _ (by show rb + 1 ≠ w.heap.size + 1 + 1 + 1; omega)).trans (Below.heap_setCell _ _ _ _ (by show rb + 1 ≠ w.heap.size + 1 + 1 + 1; omega))), ⟨⟨by rw [show outC (fun _ _ c => c) 0 (pre ++ [((2 : Fin 3), xa, xb)]) = _ from HSN.out]; exact (J1.out.set 4 _).set 5 _, (J2.out.other 4 _ (by omega)).other 5 _ (by omega)⟩, (HBW.out.setCell (p := ⟨w.heap.size + 1 + 1 + 1, 4, none⟩) (by simp; omega) _).setCell (p := ⟨w.heap.size + 1 + 1 + 1, 5, none⟩) (by simp; omega) _⟩⟩
  case done =>
    rintro D ys W hD rfl ⟨⟨j1, j2⟩, hB⟩ hK
    have hout : outC (fun _ _ c => c) 0 [(0, A, B), (1, a1, b1), (2, a2, b2)] = #[.int .i64 A, .int .i64 B, .int .i64 a1, .int .i64 b1, .int .i64 a2, .int .i64 b2] := rfl
    rw [hout] at j1
    clear hout j2
    have c0 := j1.cell 0
    have d0 := j1.frozen 0
    have c1 := j1.cell 1
    have d1 := j1.frozen 1
    have c2 := j1.cell 2
    have d2 := j1.frozen 2
    have c3 := j1.cell 3
    have d3 := j1.frozen 3
    have c4 := j1.cell 4
    have d4 := j1.frozen 4
    have c5 := j1.cell 5
    have d5 := j1.frozen 5
    simp at c0 c1 c2 c3 c4 c5
    go_wp2_with fail
    have hJ := six_stored j1 (.int .i64 A) (.int .i64 B) (.int .i64 a1) (.int .i64 b1) (.int .i64 a2) (.int .i64 b2)
    have hO : KeepsOthers W ((((((W.setCell ⟨w.heap.size + 1 + 1 + 1, 0, none⟩ (.int .i64 A)).setCell ⟨w.heap.size + 1 + 1 + 1, 1, none⟩ (.int .i64 B)).setCell ⟨w.heap.size + 1 + 1 + 1, 2, none⟩ (.int .i64 a1)).setCell ⟨w.heap.size + 1 + 1 + 1, 3, none⟩ (.int .i64 b1)).setCell ⟨w.heap.size + 1 + 1 + 1, 4, none⟩ (.int .i64 a2)).setCell ⟨w.heap.size + 1 + 1 + 1, 5, none⟩ (.int .i64 b2)) := ((((((KeepsOthers.refl W).trans (KeepsOthers.setCell _ _ _)).trans (KeepsOthers.setCell _ _ _)).trans (KeepsOthers.setCell _ _ _)).trans (KeepsOthers.setCell _ _ _)).trans (KeepsOthers.setCell _ _ _)).trans (KeepsOthers.setCell _ _ _)
    have hBw := six_below (b := w.heap.size + 1 + 1 + 1) hB (by omega) (.int .i64 A) (.int .i64 B) (.int .i64 a1) (.int .i64 b1) (.int .i64 a2) (.int .i64 b2)
    generalize ((((((W.setCell ⟨w.heap.size + 1 + 1 + 1, 0, none⟩ (.int .i64 A)).setCell ⟨w.heap.size + 1 + 1 + 1, 1, none⟩ (.int .i64 B)).setCell ⟨w.heap.size + 1 + 1 + 1, 2, none⟩ (.int .i64 a1)).setCell ⟨w.heap.size + 1 + 1 + 1, 3, none⟩ (.int .i64 b1)).setCell ⟨w.heap.size + 1 + 1 + 1, 4, none⟩ (.int .i64 a2)).setCell ⟨w.heap.size + 1 + 1 + 1, 5, none⟩ (.int .i64 b2)) = W2 at hJ hO hBw ⊢
    have hK' := hO.same D _ hK rfl
    refine ⟨by simp, .inl ⟨_, _, rfl, run_takeDeferred hK', ?_⟩⟩
    have e0 := cell_kept (hJ.cell 0) (grownBy_putObj' _ D (.deferred none)) (fun r e => by cases e; exact ⟨_, hK', rfl⟩)
    have e1 := cell_kept (hJ.cell 1) (grownBy_putObj' _ D (.deferred none)) (fun r e => by cases e; exact ⟨_, hK', rfl⟩)
    have e2 := cell_kept (hJ.cell 2) (grownBy_putObj' _ D (.deferred none)) (fun r e => by cases e; exact ⟨_, hK', rfl⟩)
    have e3 := cell_kept (hJ.cell 3) (grownBy_putObj' _ D (.deferred none)) (fun r e => by cases e; exact ⟨_, hK', rfl⟩)
    have e4 := cell_kept (hJ.cell 4) (grownBy_putObj' _ D (.deferred none)) (fun r e => by cases e; exact ⟨_, hK', rfl⟩)
    have e5 := cell_kept (hJ.cell 5) (grownBy_putObj' _ D (.deferred none)) (fun r e => by cases e; exact ⟨_, hK', rfl⟩)
    refine ⟨.tuple #[sealedV A B a1 b1 a2 b2, .int .i64 0], ?_, rfl, hBw.trans (belowK_b (w := w) (Nat.le_refl _) _ D _ _ (by have := B4.out.size; omega) hK' rfl rfl)⟩
    simp [results, Tryz.f17, go_sem, e0, e1, e2, e3, e4, e5]
  case stop =>
    rintro D c pre W _ _ h _
    exact h.elim
end Go.Proofs.YtpjobllfiimdkaaGreatDoor
