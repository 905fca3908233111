/- Which words acknowledge a letter. No condition. -/
import Derived.Test.YtpjobllfiimdkaaDoorRecSan
import Derived.Test.YtpjobllfiimdkaaDoorRecZA
import Derived.Test.YtpjobllfiimdkaaDoorOntOpn
import Derived.Test.YtpjobllfiimdkaaDoorDigCard2
namespace Go.Proofs.YtpjobllfiimdkaaDoor
open Go.ChangeShapes Go.WideShapes Go.ChangeAt Go.RowKit Go.WideElems Go.Shelf
set_option linter.unusedVariables false
set_option linter.unusedSimpArgs false

set_option maxRecDepth 100000 in
set_option maxHeartbeats 8000000 in
theorem means_e0 (key a b c x y z o e s : Int) (w : World) (hk : Hid (KeysAt w)) (hok : Hid (∀ q ∈ intsA [a, b, c], q.ok)) (he : IntKind.i64.wrap (y - 1) = e) (hs : IntKind.i64.wrap (z - 1) = s) (hv : Hid (IsVer key (ltx a b c) e s false))  (t0 : y < 1) :
    Calls Tryd.prog 5 #[.int .i64 key, .agg #[.int .i64 a, .int .i64 b, .int .i64 c], .agg #[.int .i64 x, .int .i64 y, .int .i64 z], .int .i64 o] w fun r w' => r = .returned (.bool true) ∧ Below w.heap.size w w' := by
  have A0 := Lib.hid ((Blk.new w #[.int .i64 a, .int .i64 b, .int .i64 c] 23).alloc (.cells #[.int .i64 x, .int .i64 y, .int .i64 z] 23))
  have X0 := Lib.hid (show Blk ((w.alloc (.cells #[.int .i64 a, .int .i64 b, .int .i64 c] 23)).alloc (.cells #[.int .i64 x, .int .i64 y, .int .i64 z] 23)) (w.heap.size + 1) #[.int .i64 x, .int .i64 y, .int .i64 z] 23 by have := Blk.new (w.alloc (.cells #[.int .i64 a, .int .i64 b, .int .i64 c] 23)) #[.int .i64 x, .int .i64 y, .int .i64 z] 23; simpa using this)
  have B0 := Lib.hid (show Below w.heap.size w ((w.alloc (.cells #[.int .i64 a, .int .i64 b, .int .i64 c] 23)).alloc (.cells #[.int .i64 x, .int .i64 y, .int .i64 z] 23)) from (bel_alloc1 w _).alloc (by simp) _)
  go_enter Tryd.func5, Tryd.ntmps5
  go_upto_region 1 with fail
  generalize World.alloc (World.alloc w _) _ = W0 at A0 X0 B0 ⊢
  go_upto_region 3 with (go_at_call 6; refine (sane43_any _ (Lib.hid (hk.out.below B0.out))).mono ?_; rintro r u1 ⟨rfl, hb⟩; have B1 := Lib.hid (bel_trans B0.out hb); have A1 := Lib.hid (A0.out.below hb A0.out.lt); have X1 := Lib.hid (X0.out.below hb X0.out.lt); clear hb; have a0 := A1.out.cell 0; have a1 := A1.out.cell 1; have a2 := A1.out.cell 2; have x0 := X1.out.cell 0; have x1 := X1.out.cell 1; have x2 := X1.out.cell 2)
  go_upto_region 4 with (go_at_call 13; refine (recChk_is key a b c x y z e s false _ hok (Lib.hid (hk.out.below B1.out)) he hs hv).mono ?_; rintro r u2 ⟨rfl, hb⟩; have B2 := Lib.hid (bel_trans B1.out hb); have A2 := Lib.hid (A1.out.below hb A1.out.lt); have X2 := Lib.hid (X1.out.below hb X1.out.lt); clear a0 a1 a2 x0 x1 x2; clear hb; have a0 := A2.out.cell 0; have a1 := A2.out.cell 1; have a2 := A2.out.cell 2; have x0 := X2.out.cell 0; have x1 := X2.out.cell 1; have x2 := X2.out.cell 2)
  go_upto_region 5 with fail
  clear a0 a1 a2 x0 x1 x2
  have K3 := Lib.hid (bel_alloc1 u2 (.cells #[.int .i64 x, .int .i64 y, .int .i64 z] 23))
  have Y3 := Lib.hid (Blk.new u2 #[.int .i64 x, .int .i64 y, .int .i64 z] 23)
  generalize World.alloc u2 _ = u3 at K3 Y3 ⊢
  have gA := A2.out.lt
  have gX := X2.out.lt
  have gB := B2.out.size
  generalize u2.heap.size = yb at K3 Y3 gA gX gB ⊢
  have B3 := Lib.hid (B2.out.trans (K3.out.mono gB))
  have A3 := Lib.hid (A2.out.below K3.out gA)
  have X3 := Lib.hid (X2.out.below K3.out gX)
  clear K3
  have y0 := Y3.out.cell 0
  have z0 := Y3.out.frozen 0
  go_upto_region 6 with fail
  have Y4 := Lib.hid (show Blk (u3.setCell ⟨yb, 0, none⟩ (.int .i64 o)) yb #[.int .i64 o, .int .i64 y, .int .i64 z] 23 from Y3.out.set 0 _)
  have A4 := Lib.hid (A3.out.other 0 (.int .i64 o) (show w.heap.size ≠ yb by omega))
  have X4 := Lib.hid (X3.out.other 0 (.int .i64 o) (show w.heap.size + 1 ≠ yb by omega))
  have B4 := Lib.hid (B3.out.setCell (p := ⟨yb, 0, none⟩) (show w.heap.size ≤ yb by omega) (.int .i64 o))
  clear y0 z0 A3 X3 B3 Y3
  generalize World.setCell u3 _ _ = u4 at Y4 A4 X4 B4 ⊢
  have a0 := A4.out.cell 0
  have a1 := A4.out.cell 1
  have a2 := A4.out.cell 2
  have x0 := X4.out.cell 0
  have x1 := X4.out.cell 1
  have x2 := X4.out.cell 2
  have y0 := Y4.out.cell 0
  have y1 := Y4.out.cell 1
  have y2 := Y4.out.cell 2
  go_wp2_with (go_at_call 13; refine (recChk_is key a b c o y z e s false _ hok (Lib.hid (hk.out.below B4.out)) he hs hv).mono ?_; rintro r u5 ⟨rfl, hb⟩; have B5 := Lib.hid (bel_trans B4.out hb); have A5 := Lib.hid (A4.out.below hb A4.out.lt); have X5 := Lib.hid (X4.out.below hb X4.out.lt); clear a0 a1 a2 x0 x1 x2 y0 y1 y2; clear hb; have a0 := A5.out.cell 0; have a1 := A5.out.cell 1; have a2 := A5.out.cell 2; have x0 := X5.out.cell 0; have x1 := X5.out.cell 1; have x2 := X5.out.cell 2)
  go_ret
  exact ⟨rfl, B5.out⟩
set_option maxRecDepth 100000 in
set_option maxHeartbeats 8000000 in
theorem means_e1 (key a b c x y z o e s : Int) (w : World) (hk : Hid (KeysAt w)) (hok : Hid (∀ q ∈ intsA [a, b, c], q.ok)) (he : IntKind.i64.wrap (y - 1) = e) (hs : IntKind.i64.wrap (z - 1) = s) (hv : Hid (IsVer key (ltx a b c) e s false)) (t0 : ¬ y < 1) (t1 : y > 1073741789) :
    Calls Tryd.prog 5 #[.int .i64 key, .agg #[.int .i64 a, .int .i64 b, .int .i64 c], .agg #[.int .i64 x, .int .i64 y, .int .i64 z], .int .i64 o] w fun r w' => r = .returned (.bool true) ∧ Below w.heap.size w w' := by
  have A0 := Lib.hid ((Blk.new w #[.int .i64 a, .int .i64 b, .int .i64 c] 23).alloc (.cells #[.int .i64 x, .int .i64 y, .int .i64 z] 23))
  have X0 := Lib.hid (show Blk ((w.alloc (.cells #[.int .i64 a, .int .i64 b, .int .i64 c] 23)).alloc (.cells #[.int .i64 x, .int .i64 y, .int .i64 z] 23)) (w.heap.size + 1) #[.int .i64 x, .int .i64 y, .int .i64 z] 23 by have := Blk.new (w.alloc (.cells #[.int .i64 a, .int .i64 b, .int .i64 c] 23)) #[.int .i64 x, .int .i64 y, .int .i64 z] 23; simpa using this)
  have B0 := Lib.hid (show Below w.heap.size w ((w.alloc (.cells #[.int .i64 a, .int .i64 b, .int .i64 c] 23)).alloc (.cells #[.int .i64 x, .int .i64 y, .int .i64 z] 23)) from (bel_alloc1 w _).alloc (by simp) _)
  go_enter Tryd.func5, Tryd.ntmps5
  go_upto_region 1 with fail
  generalize World.alloc (World.alloc w _) _ = W0 at A0 X0 B0 ⊢
  go_upto_region 3 with (go_at_call 6; refine (sane43_any _ (Lib.hid (hk.out.below B0.out))).mono ?_; rintro r u1 ⟨rfl, hb⟩; have B1 := Lib.hid (bel_trans B0.out hb); have A1 := Lib.hid (A0.out.below hb A0.out.lt); have X1 := Lib.hid (X0.out.below hb X0.out.lt); clear hb; have a0 := A1.out.cell 0; have a1 := A1.out.cell 1; have a2 := A1.out.cell 2; have x0 := X1.out.cell 0; have x1 := X1.out.cell 1; have x2 := X1.out.cell 2)
  go_upto_region 4 with (go_at_call 13; refine (recChk_is key a b c x y z e s false _ hok (Lib.hid (hk.out.below B1.out)) he hs hv).mono ?_; rintro r u2 ⟨rfl, hb⟩; have B2 := Lib.hid (bel_trans B1.out hb); have A2 := Lib.hid (A1.out.below hb A1.out.lt); have X2 := Lib.hid (X1.out.below hb X1.out.lt); clear a0 a1 a2 x0 x1 x2; clear hb; have a0 := A2.out.cell 0; have a1 := A2.out.cell 1; have a2 := A2.out.cell 2; have x0 := X2.out.cell 0; have x1 := X2.out.cell 1; have x2 := X2.out.cell 2)
  go_upto_region 5 with fail
  clear a0 a1 a2 x0 x1 x2
  have K3 := Lib.hid (bel_alloc1 u2 (.cells #[.int .i64 x, .int .i64 y, .int .i64 z] 23))
  have Y3 := Lib.hid (Blk.new u2 #[.int .i64 x, .int .i64 y, .int .i64 z] 23)
  generalize World.alloc u2 _ = u3 at K3 Y3 ⊢
  have gA := A2.out.lt
  have gX := X2.out.lt
  have gB := B2.out.size
  generalize u2.heap.size = yb at K3 Y3 gA gX gB ⊢
  have B3 := Lib.hid (B2.out.trans (K3.out.mono gB))
  have A3 := Lib.hid (A2.out.below K3.out gA)
  have X3 := Lib.hid (X2.out.below K3.out gX)
  clear K3
  have y0 := Y3.out.cell 0
  have z0 := Y3.out.frozen 0
  go_upto_region 6 with fail
  have Y4 := Lib.hid (show Blk (u3.setCell ⟨yb, 0, none⟩ (.int .i64 o)) yb #[.int .i64 o, .int .i64 y, .int .i64 z] 23 from Y3.out.set 0 _)
  have A4 := Lib.hid (A3.out.other 0 (.int .i64 o) (show w.heap.size ≠ yb by omega))
  have X4 := Lib.hid (X3.out.other 0 (.int .i64 o) (show w.heap.size + 1 ≠ yb by omega))
  have B4 := Lib.hid (B3.out.setCell (p := ⟨yb, 0, none⟩) (show w.heap.size ≤ yb by omega) (.int .i64 o))
  clear y0 z0 A3 X3 B3 Y3
  generalize World.setCell u3 _ _ = u4 at Y4 A4 X4 B4 ⊢
  have a0 := A4.out.cell 0
  have a1 := A4.out.cell 1
  have a2 := A4.out.cell 2
  have x0 := X4.out.cell 0
  have x1 := X4.out.cell 1
  have x2 := X4.out.cell 2
  have y0 := Y4.out.cell 0
  have y1 := Y4.out.cell 1
  have y2 := Y4.out.cell 2
  go_wp2_with (go_at_call 13; refine (recChk_is key a b c o y z e s false _ hok (Lib.hid (hk.out.below B4.out)) he hs hv).mono ?_; rintro r u5 ⟨rfl, hb⟩; have B5 := Lib.hid (bel_trans B4.out hb); have A5 := Lib.hid (A4.out.below hb A4.out.lt); have X5 := Lib.hid (X4.out.below hb X4.out.lt); clear a0 a1 a2 x0 x1 x2 y0 y1 y2; clear hb; have a0 := A5.out.cell 0; have a1 := A5.out.cell 1; have a2 := A5.out.cell 2; have x0 := X5.out.cell 0; have x1 := X5.out.cell 1; have x2 := X5.out.cell 2)
  go_ret
  exact ⟨rfl, B5.out⟩
set_option maxRecDepth 100000 in
set_option maxHeartbeats 8000000 in
theorem means_e2 (key a b c x y z o e s : Int) (w : World) (hk : Hid (KeysAt w)) (hok : Hid (∀ q ∈ intsA [a, b, c], q.ok)) (he : IntKind.i64.wrap (y - 1) = e) (hs : IntKind.i64.wrap (z - 1) = s) (hv : Hid (IsVer key (ltx a b c) e s false)) (t0 : ¬ y < 1) (t1 : ¬ y > 1073741789) (t2 : z < 1) :
    Calls Tryd.prog 5 #[.int .i64 key, .agg #[.int .i64 a, .int .i64 b, .int .i64 c], .agg #[.int .i64 x, .int .i64 y, .int .i64 z], .int .i64 o] w fun r w' => r = .returned (.bool true) ∧ Below w.heap.size w w' := by
  have A0 := Lib.hid ((Blk.new w #[.int .i64 a, .int .i64 b, .int .i64 c] 23).alloc (.cells #[.int .i64 x, .int .i64 y, .int .i64 z] 23))
  have X0 := Lib.hid (show Blk ((w.alloc (.cells #[.int .i64 a, .int .i64 b, .int .i64 c] 23)).alloc (.cells #[.int .i64 x, .int .i64 y, .int .i64 z] 23)) (w.heap.size + 1) #[.int .i64 x, .int .i64 y, .int .i64 z] 23 by have := Blk.new (w.alloc (.cells #[.int .i64 a, .int .i64 b, .int .i64 c] 23)) #[.int .i64 x, .int .i64 y, .int .i64 z] 23; simpa using this)
  have B0 := Lib.hid (show Below w.heap.size w ((w.alloc (.cells #[.int .i64 a, .int .i64 b, .int .i64 c] 23)).alloc (.cells #[.int .i64 x, .int .i64 y, .int .i64 z] 23)) from (bel_alloc1 w _).alloc (by simp) _)
  go_enter Tryd.func5, Tryd.ntmps5
  go_upto_region 1 with fail
  generalize World.alloc (World.alloc w _) _ = W0 at A0 X0 B0 ⊢
  go_upto_region 3 with (go_at_call 6; refine (sane43_any _ (Lib.hid (hk.out.below B0.out))).mono ?_; rintro r u1 ⟨rfl, hb⟩; have B1 := Lib.hid (bel_trans B0.out hb); have A1 := Lib.hid (A0.out.below hb A0.out.lt); have X1 := Lib.hid (X0.out.below hb X0.out.lt); clear hb; have a0 := A1.out.cell 0; have a1 := A1.out.cell 1; have a2 := A1.out.cell 2; have x0 := X1.out.cell 0; have x1 := X1.out.cell 1; have x2 := X1.out.cell 2)
  go_upto_region 4 with (go_at_call 13; refine (recChk_is key a b c x y z e s false _ hok (Lib.hid (hk.out.below B1.out)) he hs hv).mono ?_; rintro r u2 ⟨rfl, hb⟩; have B2 := Lib.hid (bel_trans B1.out hb); have A2 := Lib.hid (A1.out.below hb A1.out.lt); have X2 := Lib.hid (X1.out.below hb X1.out.lt); clear a0 a1 a2 x0 x1 x2; clear hb; have a0 := A2.out.cell 0; have a1 := A2.out.cell 1; have a2 := A2.out.cell 2; have x0 := X2.out.cell 0; have x1 := X2.out.cell 1; have x2 := X2.out.cell 2)
  go_upto_region 5 with fail
  clear a0 a1 a2 x0 x1 x2
  have K3 := Lib.hid (bel_alloc1 u2 (.cells #[.int .i64 x, .int .i64 y, .int .i64 z] 23))
  have Y3 := Lib.hid (Blk.new u2 #[.int .i64 x, .int .i64 y, .int .i64 z] 23)
  generalize World.alloc u2 _ = u3 at K3 Y3 ⊢
  have gA := A2.out.lt
  have gX := X2.out.lt
  have gB := B2.out.size
  generalize u2.heap.size = yb at K3 Y3 gA gX gB ⊢
  have B3 := Lib.hid (B2.out.trans (K3.out.mono gB))
  have A3 := Lib.hid (A2.out.below K3.out gA)
  have X3 := Lib.hid (X2.out.below K3.out gX)
  clear K3
  have y0 := Y3.out.cell 0
  have z0 := Y3.out.frozen 0
  go_upto_region 6 with fail
  have Y4 := Lib.hid (show Blk (u3.setCell ⟨yb, 0, none⟩ (.int .i64 o)) yb #[.int .i64 o, .int .i64 y, .int .i64 z] 23 from Y3.out.set 0 _)
  have A4 := Lib.hid (A3.out.other 0 (.int .i64 o) (show w.heap.size ≠ yb by omega))
  have X4 := Lib.hid (X3.out.other 0 (.int .i64 o) (show w.heap.size + 1 ≠ yb by omega))
  have B4 := Lib.hid (B3.out.setCell (p := ⟨yb, 0, none⟩) (show w.heap.size ≤ yb by omega) (.int .i64 o))
  clear y0 z0 A3 X3 B3 Y3
  generalize World.setCell u3 _ _ = u4 at Y4 A4 X4 B4 ⊢
  have a0 := A4.out.cell 0
  have a1 := A4.out.cell 1
  have a2 := A4.out.cell 2
  have x0 := X4.out.cell 0
  have x1 := X4.out.cell 1
  have x2 := X4.out.cell 2
  have y0 := Y4.out.cell 0
  have y1 := Y4.out.cell 1
  have y2 := Y4.out.cell 2
  go_wp2_with (go_at_call 13; refine (recChk_is key a b c o y z e s false _ hok (Lib.hid (hk.out.below B4.out)) he hs hv).mono ?_; rintro r u5 ⟨rfl, hb⟩; have B5 := Lib.hid (bel_trans B4.out hb); have A5 := Lib.hid (A4.out.below hb A4.out.lt); have X5 := Lib.hid (X4.out.below hb X4.out.lt); clear a0 a1 a2 x0 x1 x2 y0 y1 y2; clear hb; have a0 := A5.out.cell 0; have a1 := A5.out.cell 1; have a2 := A5.out.cell 2; have x0 := X5.out.cell 0; have x1 := X5.out.cell 1; have x2 := X5.out.cell 2)
  go_ret
  exact ⟨rfl, B5.out⟩
set_option maxRecDepth 100000 in
set_option maxHeartbeats 8000000 in
theorem means_e3 (key a b c x y z o e s : Int) (w : World) (hk : Hid (KeysAt w)) (hok : Hid (∀ q ∈ intsA [a, b, c], q.ok)) (he : IntKind.i64.wrap (y - 1) = e) (hs : IntKind.i64.wrap (z - 1) = s) (hv : Hid (IsVer key (ltx a b c) e s false)) (t0 : ¬ y < 1) (t1 : ¬ y > 1073741789) (t2 : ¬ z < 1) (t3 : z > 1073741789) :
    Calls Tryd.prog 5 #[.int .i64 key, .agg #[.int .i64 a, .int .i64 b, .int .i64 c], .agg #[.int .i64 x, .int .i64 y, .int .i64 z], .int .i64 o] w fun r w' => r = .returned (.bool true) ∧ Below w.heap.size w w' := by
  have A0 := Lib.hid ((Blk.new w #[.int .i64 a, .int .i64 b, .int .i64 c] 23).alloc (.cells #[.int .i64 x, .int .i64 y, .int .i64 z] 23))
  have X0 := Lib.hid (show Blk ((w.alloc (.cells #[.int .i64 a, .int .i64 b, .int .i64 c] 23)).alloc (.cells #[.int .i64 x, .int .i64 y, .int .i64 z] 23)) (w.heap.size + 1) #[.int .i64 x, .int .i64 y, .int .i64 z] 23 by have := Blk.new (w.alloc (.cells #[.int .i64 a, .int .i64 b, .int .i64 c] 23)) #[.int .i64 x, .int .i64 y, .int .i64 z] 23; simpa using this)
  have B0 := Lib.hid (show Below w.heap.size w ((w.alloc (.cells #[.int .i64 a, .int .i64 b, .int .i64 c] 23)).alloc (.cells #[.int .i64 x, .int .i64 y, .int .i64 z] 23)) from (bel_alloc1 w _).alloc (by simp) _)
  go_enter Tryd.func5, Tryd.ntmps5
  go_upto_region 1 with fail
  generalize World.alloc (World.alloc w _) _ = W0 at A0 X0 B0 ⊢
  go_upto_region 3 with (go_at_call 6; refine (sane43_any _ (Lib.hid (hk.out.below B0.out))).mono ?_; rintro r u1 ⟨rfl, hb⟩; have B1 := Lib.hid (bel_trans B0.out hb); have A1 := Lib.hid (A0.out.below hb A0.out.lt); have X1 := Lib.hid (X0.out.below hb X0.out.lt); clear hb; have a0 := A1.out.cell 0; have a1 := A1.out.cell 1; have a2 := A1.out.cell 2; have x0 := X1.out.cell 0; have x1 := X1.out.cell 1; have x2 := X1.out.cell 2)
  go_upto_region 4 with (go_at_call 13; refine (recChk_is key a b c x y z e s false _ hok (Lib.hid (hk.out.below B1.out)) he hs hv).mono ?_; rintro r u2 ⟨rfl, hb⟩; have B2 := Lib.hid (bel_trans B1.out hb); have A2 := Lib.hid (A1.out.below hb A1.out.lt); have X2 := Lib.hid (X1.out.below hb X1.out.lt); clear a0 a1 a2 x0 x1 x2; clear hb; have a0 := A2.out.cell 0; have a1 := A2.out.cell 1; have a2 := A2.out.cell 2; have x0 := X2.out.cell 0; have x1 := X2.out.cell 1; have x2 := X2.out.cell 2)
  go_upto_region 5 with fail
  clear a0 a1 a2 x0 x1 x2
  have K3 := Lib.hid (bel_alloc1 u2 (.cells #[.int .i64 x, .int .i64 y, .int .i64 z] 23))
  have Y3 := Lib.hid (Blk.new u2 #[.int .i64 x, .int .i64 y, .int .i64 z] 23)
  generalize World.alloc u2 _ = u3 at K3 Y3 ⊢
  have gA := A2.out.lt
  have gX := X2.out.lt
  have gB := B2.out.size
  generalize u2.heap.size = yb at K3 Y3 gA gX gB ⊢
  have B3 := Lib.hid (B2.out.trans (K3.out.mono gB))
  have A3 := Lib.hid (A2.out.below K3.out gA)
  have X3 := Lib.hid (X2.out.below K3.out gX)
  clear K3
  have y0 := Y3.out.cell 0
  have z0 := Y3.out.frozen 0
  go_upto_region 6 with fail
  have Y4 := Lib.hid (show Blk (u3.setCell ⟨yb, 0, none⟩ (.int .i64 o)) yb #[.int .i64 o, .int .i64 y, .int .i64 z] 23 from Y3.out.set 0 _)
  have A4 := Lib.hid (A3.out.other 0 (.int .i64 o) (show w.heap.size ≠ yb by omega))
  have X4 := Lib.hid (X3.out.other 0 (.int .i64 o) (show w.heap.size + 1 ≠ yb by omega))
  have B4 := Lib.hid (B3.out.setCell (p := ⟨yb, 0, none⟩) (show w.heap.size ≤ yb by omega) (.int .i64 o))
  clear y0 z0 A3 X3 B3 Y3
  generalize World.setCell u3 _ _ = u4 at Y4 A4 X4 B4 ⊢
  have a0 := A4.out.cell 0
  have a1 := A4.out.cell 1
  have a2 := A4.out.cell 2
  have x0 := X4.out.cell 0
  have x1 := X4.out.cell 1
  have x2 := X4.out.cell 2
  have y0 := Y4.out.cell 0
  have y1 := Y4.out.cell 1
  have y2 := Y4.out.cell 2
  go_wp2_with (go_at_call 13; refine (recChk_is key a b c o y z e s false _ hok (Lib.hid (hk.out.below B4.out)) he hs hv).mono ?_; rintro r u5 ⟨rfl, hb⟩; have B5 := Lib.hid (bel_trans B4.out hb); have A5 := Lib.hid (A4.out.below hb A4.out.lt); have X5 := Lib.hid (X4.out.below hb X4.out.lt); clear a0 a1 a2 x0 x1 x2 y0 y1 y2; clear hb; have a0 := A5.out.cell 0; have a1 := A5.out.cell 1; have a2 := A5.out.cell 2; have x0 := X5.out.cell 0; have x1 := X5.out.cell 1; have x2 := X5.out.cell 2)
  go_ret
  exact ⟨rfl, B5.out⟩
set_option maxRecDepth 100000 in
set_option maxHeartbeats 8000000 in
theorem means_m_true (key a b c x y z o e s : Int) (w : World) (hk : Hid (KeysAt w)) (hok : Hid (∀ q ∈ intsA [a, b, c], q.ok)) (he : IntKind.i64.wrap (y - 1) = e) (hs : IntKind.i64.wrap (z - 1) = s) (hv : Hid (IsVer key (ltx a b c) e s true)) (t0 : ¬ y < 1) (t1 : ¬ y > 1073741789) (t2 : ¬ z < 1) (t3 : ¬ z > 1073741789) :
    Calls Tryd.prog 5 #[.int .i64 key, .agg #[.int .i64 a, .int .i64 b, .int .i64 c], .agg #[.int .i64 x, .int .i64 y, .int .i64 z], .int .i64 o] w fun r w' => r = .returned (.bool true) ∧ Below w.heap.size w w' := by
  have A0 := Lib.hid ((Blk.new w #[.int .i64 a, .int .i64 b, .int .i64 c] 23).alloc (.cells #[.int .i64 x, .int .i64 y, .int .i64 z] 23))
  have X0 := Lib.hid (show Blk ((w.alloc (.cells #[.int .i64 a, .int .i64 b, .int .i64 c] 23)).alloc (.cells #[.int .i64 x, .int .i64 y, .int .i64 z] 23)) (w.heap.size + 1) #[.int .i64 x, .int .i64 y, .int .i64 z] 23 by have := Blk.new (w.alloc (.cells #[.int .i64 a, .int .i64 b, .int .i64 c] 23)) #[.int .i64 x, .int .i64 y, .int .i64 z] 23; simpa using this)
  have B0 := Lib.hid (show Below w.heap.size w ((w.alloc (.cells #[.int .i64 a, .int .i64 b, .int .i64 c] 23)).alloc (.cells #[.int .i64 x, .int .i64 y, .int .i64 z] 23)) from (bel_alloc1 w _).alloc (by simp) _)
  go_enter Tryd.func5, Tryd.ntmps5
  go_upto_region 1 with fail
  generalize World.alloc (World.alloc w _) _ = W0 at A0 X0 B0 ⊢
  go_upto_region 3 with (go_at_call 6; refine (sane43_any _ (Lib.hid (hk.out.below B0.out))).mono ?_; rintro r u1 ⟨rfl, hb⟩; have B1 := Lib.hid (bel_trans B0.out hb); have A1 := Lib.hid (A0.out.below hb A0.out.lt); have X1 := Lib.hid (X0.out.below hb X0.out.lt); clear hb; have a0 := A1.out.cell 0; have a1 := A1.out.cell 1; have a2 := A1.out.cell 2; have x0 := X1.out.cell 0; have x1 := X1.out.cell 1; have x2 := X1.out.cell 2)
  go_upto_region 4 with (go_at_call 13; refine (recChk_is key a b c x y z e s true _ hok (Lib.hid (hk.out.below B1.out)) he hs hv).mono ?_; rintro r u2 ⟨rfl, hb⟩; have B2 := Lib.hid (bel_trans B1.out hb); have A2 := Lib.hid (A1.out.below hb A1.out.lt); have X2 := Lib.hid (X1.out.below hb X1.out.lt); clear a0 a1 a2 x0 x1 x2; clear hb; have a0 := A2.out.cell 0; have a1 := A2.out.cell 1; have a2 := A2.out.cell 2; have x0 := X2.out.cell 0; have x1 := X2.out.cell 1; have x2 := X2.out.cell 2)
  go_upto_region 5 with fail
  clear a0 a1 a2 x0 x1 x2
  have K3 := Lib.hid (bel_alloc1 u2 (.cells #[.int .i64 x, .int .i64 y, .int .i64 z] 23))
  have Y3 := Lib.hid (Blk.new u2 #[.int .i64 x, .int .i64 y, .int .i64 z] 23)
  generalize World.alloc u2 _ = u3 at K3 Y3 ⊢
  have gA := A2.out.lt
  have gX := X2.out.lt
  have gB := B2.out.size
  generalize u2.heap.size = yb at K3 Y3 gA gX gB ⊢
  have B3 := Lib.hid (B2.out.trans (K3.out.mono gB))
  have A3 := Lib.hid (A2.out.below K3.out gA)
  have X3 := Lib.hid (X2.out.below K3.out gX)
  clear K3
  have y0 := Y3.out.cell 0
  have z0 := Y3.out.frozen 0
  go_upto_region 6 with fail
  have Y4 := Lib.hid (show Blk (u3.setCell ⟨yb, 0, none⟩ (.int .i64 o)) yb #[.int .i64 o, .int .i64 y, .int .i64 z] 23 from Y3.out.set 0 _)
  have A4 := Lib.hid (A3.out.other 0 (.int .i64 o) (show w.heap.size ≠ yb by omega))
  have X4 := Lib.hid (X3.out.other 0 (.int .i64 o) (show w.heap.size + 1 ≠ yb by omega))
  have B4 := Lib.hid (B3.out.setCell (p := ⟨yb, 0, none⟩) (show w.heap.size ≤ yb by omega) (.int .i64 o))
  clear y0 z0 A3 X3 B3 Y3
  generalize World.setCell u3 _ _ = u4 at Y4 A4 X4 B4 ⊢
  have a0 := A4.out.cell 0
  have a1 := A4.out.cell 1
  have a2 := A4.out.cell 2
  have x0 := X4.out.cell 0
  have x1 := X4.out.cell 1
  have x2 := X4.out.cell 2
  have y0 := Y4.out.cell 0
  have y1 := Y4.out.cell 1
  have y2 := Y4.out.cell 2
  go_upto_region 10 with (go_at_call 13; refine (recChk_is key a b c o y z e s true _ hok (Lib.hid (hk.out.below B4.out)) he hs hv).mono ?_; rintro r u5 ⟨rfl, hb⟩; have B5 := Lib.hid (bel_trans B4.out hb); have A5 := Lib.hid (A4.out.below hb A4.out.lt); have X5 := Lib.hid (X4.out.below hb X4.out.lt); clear a0 a1 a2 x0 x1 x2 y0 y1 y2; clear hb; have a0 := A5.out.cell 0; have a1 := A5.out.cell 1; have a2 := A5.out.cell 2; have x0 := X5.out.cell 0; have x1 := X5.out.cell 1; have x2 := X5.out.cell 2)
  go_wp2_with (first
    | (go_at_call 14; refine (enc3_is a b c _ hok).mono ?_; rintro r u6 ⟨p, cp, rfl, hz, hb⟩; have Z6 := Lib.hid hz; have B6 := Lib.hid (bel_trans B5.out hb); have X6 := Lib.hid (X5.out.below hb X5.out.lt); clear a0 a1 a2 x0 x1 x2; clear hz hb; have x0 := X6.out.cell 0; have x1 := X6.out.cell 1; have x2 := X6.out.cell 2)
    | (go_at_call 17; refine (verify_is key e s p _ cp (ltx a b c) _ (Lib.hid (ltx_ok hok.out)) (Lib.hid (.inl Z6.out)) (Lib.hid (hk.out.below B6.out)) true hv).mono ?_; rintro r u7 ⟨rfl, hb⟩; have B7 := Lib.hid (bel_trans B6.out hb); clear hb))
  go_ret
  exact ⟨rfl, B7.out⟩
set_option maxRecDepth 100000 in
set_option maxHeartbeats 8000000 in
theorem means_m_false (key a b c x y z o e s : Int) (w : World) (hk : Hid (KeysAt w)) (hok : Hid (∀ q ∈ intsA [a, b, c], q.ok)) (he : IntKind.i64.wrap (y - 1) = e) (hs : IntKind.i64.wrap (z - 1) = s) (hv : Hid (IsVer key (ltx a b c) e s false)) (t0 : ¬ y < 1) (t1 : ¬ y > 1073741789) (t2 : ¬ z < 1) (t3 : ¬ z > 1073741789) :
    Calls Tryd.prog 5 #[.int .i64 key, .agg #[.int .i64 a, .int .i64 b, .int .i64 c], .agg #[.int .i64 x, .int .i64 y, .int .i64 z], .int .i64 o] w fun r w' => r = .returned (.bool true) ∧ Below w.heap.size w w' := by
  have A0 := Lib.hid ((Blk.new w #[.int .i64 a, .int .i64 b, .int .i64 c] 23).alloc (.cells #[.int .i64 x, .int .i64 y, .int .i64 z] 23))
  have X0 := Lib.hid (show Blk ((w.alloc (.cells #[.int .i64 a, .int .i64 b, .int .i64 c] 23)).alloc (.cells #[.int .i64 x, .int .i64 y, .int .i64 z] 23)) (w.heap.size + 1) #[.int .i64 x, .int .i64 y, .int .i64 z] 23 by have := Blk.new (w.alloc (.cells #[.int .i64 a, .int .i64 b, .int .i64 c] 23)) #[.int .i64 x, .int .i64 y, .int .i64 z] 23; simpa using this)
  have B0 := Lib.hid (show Below w.heap.size w ((w.alloc (.cells #[.int .i64 a, .int .i64 b, .int .i64 c] 23)).alloc (.cells #[.int .i64 x, .int .i64 y, .int .i64 z] 23)) from (bel_alloc1 w _).alloc (by simp) _)
  go_enter Tryd.func5, Tryd.ntmps5
  go_upto_region 1 with fail
  generalize World.alloc (World.alloc w _) _ = W0 at A0 X0 B0 ⊢
  go_upto_region 3 with (go_at_call 6; refine (sane43_any _ (Lib.hid (hk.out.below B0.out))).mono ?_; rintro r u1 ⟨rfl, hb⟩; have B1 := Lib.hid (bel_trans B0.out hb); have A1 := Lib.hid (A0.out.below hb A0.out.lt); have X1 := Lib.hid (X0.out.below hb X0.out.lt); clear hb; have a0 := A1.out.cell 0; have a1 := A1.out.cell 1; have a2 := A1.out.cell 2; have x0 := X1.out.cell 0; have x1 := X1.out.cell 1; have x2 := X1.out.cell 2)
  go_upto_region 4 with (go_at_call 13; refine (recChk_is key a b c x y z e s false _ hok (Lib.hid (hk.out.below B1.out)) he hs hv).mono ?_; rintro r u2 ⟨rfl, hb⟩; have B2 := Lib.hid (bel_trans B1.out hb); have A2 := Lib.hid (A1.out.below hb A1.out.lt); have X2 := Lib.hid (X1.out.below hb X1.out.lt); clear a0 a1 a2 x0 x1 x2; clear hb; have a0 := A2.out.cell 0; have a1 := A2.out.cell 1; have a2 := A2.out.cell 2; have x0 := X2.out.cell 0; have x1 := X2.out.cell 1; have x2 := X2.out.cell 2)
  go_upto_region 5 with fail
  clear a0 a1 a2 x0 x1 x2
  have K3 := Lib.hid (bel_alloc1 u2 (.cells #[.int .i64 x, .int .i64 y, .int .i64 z] 23))
  have Y3 := Lib.hid (Blk.new u2 #[.int .i64 x, .int .i64 y, .int .i64 z] 23)
  generalize World.alloc u2 _ = u3 at K3 Y3 ⊢
  have gA := A2.out.lt
  have gX := X2.out.lt
  have gB := B2.out.size
  generalize u2.heap.size = yb at K3 Y3 gA gX gB ⊢
  have B3 := Lib.hid (B2.out.trans (K3.out.mono gB))
  have A3 := Lib.hid (A2.out.below K3.out gA)
  have X3 := Lib.hid (X2.out.below K3.out gX)
  clear K3
  have y0 := Y3.out.cell 0
  have z0 := Y3.out.frozen 0
  go_upto_region 6 with fail
  have Y4 := Lib.hid (show Blk (u3.setCell ⟨yb, 0, none⟩ (.int .i64 o)) yb #[.int .i64 o, .int .i64 y, .int .i64 z] 23 from Y3.out.set 0 _)
  have A4 := Lib.hid (A3.out.other 0 (.int .i64 o) (show w.heap.size ≠ yb by omega))
  have X4 := Lib.hid (X3.out.other 0 (.int .i64 o) (show w.heap.size + 1 ≠ yb by omega))
  have B4 := Lib.hid (B3.out.setCell (p := ⟨yb, 0, none⟩) (show w.heap.size ≤ yb by omega) (.int .i64 o))
  clear y0 z0 A3 X3 B3 Y3
  generalize World.setCell u3 _ _ = u4 at Y4 A4 X4 B4 ⊢
  have a0 := A4.out.cell 0
  have a1 := A4.out.cell 1
  have a2 := A4.out.cell 2
  have x0 := X4.out.cell 0
  have x1 := X4.out.cell 1
  have x2 := X4.out.cell 2
  have y0 := Y4.out.cell 0
  have y1 := Y4.out.cell 1
  have y2 := Y4.out.cell 2
  go_upto_region 10 with (go_at_call 13; refine (recChk_is key a b c o y z e s false _ hok (Lib.hid (hk.out.below B4.out)) he hs hv).mono ?_; rintro r u5 ⟨rfl, hb⟩; have B5 := Lib.hid (bel_trans B4.out hb); have A5 := Lib.hid (A4.out.below hb A4.out.lt); have X5 := Lib.hid (X4.out.below hb X4.out.lt); clear a0 a1 a2 x0 x1 x2 y0 y1 y2; clear hb; have a0 := A5.out.cell 0; have a1 := A5.out.cell 1; have a2 := A5.out.cell 2; have x0 := X5.out.cell 0; have x1 := X5.out.cell 1; have x2 := X5.out.cell 2)
  go_wp2_with (first
    | (go_at_call 14; refine (enc3_is a b c _ hok).mono ?_; rintro r u6 ⟨p, cp, rfl, hz, hb⟩; have Z6 := Lib.hid hz; have B6 := Lib.hid (bel_trans B5.out hb); have X6 := Lib.hid (X5.out.below hb X5.out.lt); clear a0 a1 a2 x0 x1 x2; clear hz hb; have x0 := X6.out.cell 0; have x1 := X6.out.cell 1; have x2 := X6.out.cell 2)
    | (go_at_call 17; refine (verify_is key e s p _ cp (ltx a b c) _ (Lib.hid (ltx_ok hok.out)) (Lib.hid (.inl Z6.out)) (Lib.hid (hk.out.below B6.out)) false hv).mono ?_; rintro r u7 ⟨rfl, hb⟩; have B7 := Lib.hid (bel_trans B6.out hb); clear hb))
  go_ret
  exact ⟨rfl, B7.out⟩
theorem wrap_out {y : Int} (h : inR y) (ho : y < 1 ∨ 1073741789 < y) : inQ (IntKind.i64.wrap (y - 1)) = false := by
  unfold inR at h
  by_cases hm : y = -9223372036854775808
  · subst hm; decide
  · rw [IntWalk.i64_in _ (by omega)]
    unfold inQ
    rcases ho with ho | ho
    · rw [decide_eq_false (by omega : ¬ 0 ≤ y - 1)]; rfl
    · rw [decide_eq_false (by omega : ¬ y - 1 < 1073741789)]; simp
theorem means_walk (key a b c x y z o : Int) (w : World) (hk : Hid (KeysAt w)) (hok : Hid (∀ q ∈ intsA [a, b, c], q.ok)) (ry : inR y) (rz : inR z) :
    Calls Tryd.prog 5 #[.int .i64 key, .agg #[.int .i64 a, .int .i64 b, .int .i64 c], .agg #[.int .i64 x, .int .i64 y, .int .i64 z], .int .i64 o] w fun r w' => r = .returned (.bool true) ∧ Below w.heap.size w w' := by
  obtain ⟨v, hv⟩ := isVer key (ltx a b c) (IntKind.i64.wrap (y - 1)) (IntKind.i64.wrap (z - 1))
  have no1 : y < 1 ∨ 1073741789 < y → IsVer key (ltx a b c) (IntKind.i64.wrap (y - 1)) (IntKind.i64.wrap (z - 1)) false := fun h => IsVer.no (by rw [wrap_out ry h]; simp)
  have no2 : z < 1 ∨ 1073741789 < z → IsVer key (ltx a b c) (IntKind.i64.wrap (y - 1)) (IntKind.i64.wrap (z - 1)) false := fun h => IsVer.no (by rw [wrap_out rz h]; simp)
  by_cases t0 : y < 1
  · exact means_e0 key a b c x y z o _ _ w hk hok rfl rfl (Lib.hid (no1 (.inl t0))) t0
  by_cases t1 : y > 1073741789
  · exact means_e1 key a b c x y z o _ _ w hk hok rfl rfl (Lib.hid (no1 (.inr t1))) t0 t1
  by_cases t2 : z < 1
  · exact means_e2 key a b c x y z o _ _ w hk hok rfl rfl (Lib.hid (no2 (.inl t2))) t0 t1 t2
  by_cases t3 : z > 1073741789
  · exact means_e3 key a b c x y z o _ _ w hk hok rfl rfl (Lib.hid (no2 (.inr t3))) t0 t1 t2 t3
  cases v with
  | true => exact means_m_true key a b c x y z o _ _ w hk hok rfl rfl (Lib.hid hv) t0 t1 t2 t3
  | false => exact means_m_false key a b c x y z o _ _ w hk hok rfl rfl (Lib.hid hv) t0 t1 t2 t3

namespace receiptsMeans
theorem readable : ∀ t ∈ Tryd.f5.params.toList, Tryd.prog.readableRec t = true ∧ t < Tryd.prog.types.size := by
  rw [Tryd.params5]
  intro t ht
  simp only [List.mem_cons, List.not_mem_nil, or_false] at ht
  rcases ht with rfl | rfl | rfl | rfl
  all_goals exact ⟨by kernel_rfl, by decide +kernel⟩

set_option maxRecDepth 100000 in
theorem lifted (os : Os) (started : os.Started) (H : Type) (enc : TypeId × Value → H) :
    ReturnsInHanded {} Tryd.checked os 5 .any (fun w args => (Rows.receiptsMeansSpec.pre enc Tryd.prog Tryd.f5 [] false w args ∧ laidMetH Tryd.prog laidK w) ∧ sizedMet enc Tryd.prog Tryd.f5 (OpenSpec.ofChange Rows.receiptsMeansSpec) false w args)
      (Rows.receiptsMeansSpec.post enc Tryd.prog Tryd.f5 false true false false) := by
  refine returnsInHanded_of_change_and (C := Tryd.checked) (X := fun w _ => laidMetH Tryd.prog laidK w) (fun _ _ _ hh h => h.of_heap hh) own_knob started (by kernel_rfl) Tryd.func5
    (ChangeSpec.witness_shaped (enc := enc) (C := Tryd.checked) (os := os) (X := fun w _ => laidMetH Tryd.prog laidK w) false (World.doorLaid Tryd.prog 400 os) #[.int .i64 0, .agg #[.int .i64 0, .int .i64 0, .int .i64 0], .agg #[.int .i64 0, .int .i64 0, .int .i64 0], .int .i64 0] 8 rfl (World.shaped_of_RefB (by kernel_rfl) (by kernel_rfl)) (by kernel_rfl) (by kernel_rfl) (by kernel_rfl) (door_met os _)) ?_
  intro W base args ds gs before hval0 hW _ _ hL _
  have hval : ∀ (j : Nat) t v, Tryd.f5.params[j]? = some t → args[j]? = some v → Value.okWide Tryd.prog W .any base t v := hval0
  have hW' := hW
  obtain ⟨p, q, hA0, hV, rfl, hfz, hnd⟩ := hW
  have hA : DataW.TrodAll enc Tryd.prog W 0 (fun _ => true) true Tryd.f5.params.toList args.toList ds p := hA0
  rw [Tryd.params5] at hA hval
  obtain ⟨v0, vs0, d0, ds0, p0, q0, hargs, rfl, rfl, h0, r0⟩ := trodAll_cons hA
  obtain ⟨v1, vs1, d1, ds1, p1, q1, rfl, rfl, rfl, h1, r1⟩ := trodAll_cons r0
  obtain ⟨v2, vs2, d2, ds2, p2, q2, rfl, rfl, rfl, h2, r2⟩ := trodAll_cons r1
  obtain ⟨v3, vs3, d3, ds3, p3, q3, rfl, rfl, rfl, h3, r3⟩ := trodAll_cons r2
  obtain ⟨rfl, rfl, rfl⟩ := trodAll_nil r3
  obtain rfl : args = #[v0, v1, v2, v3] := by cases args; simp_all
  obtain ⟨rfl, rfl⟩ := trodVars_none hV
  obtain ⟨a0, rfl, rfl, rfl, w0⟩ := open_int Tryd.underlying3 (hval 0 3 v0 rfl rfl) h0
  obtain ⟨a1, b1, c1, rfl, w1, x1, y1⟩ := open_arr3 Tryd.underlying23 Tryd.underlying3 (by kernel_rfl) (by kernel_rfl) (hval 1 23 v1 rfl rfl) h1
  obtain ⟨a2, b2, c2, rfl, w2, x2, y2⟩ := open_arr3 Tryd.underlying23 Tryd.underlying3 (by kernel_rfl) (by kernel_rfl) (hval 2 23 v2 rfl rfl) h2
  obtain ⟨a3, rfl, rfl, rfl, w3⟩ := open_int Tryd.underlying3 (hval 3 3 v3 rfl rfl) h3
  have hK := of_laid hL
  clear hA0 hval0
  refine (means_walk a0 a1 b1 c1 a2 b2 c2 a3 W (Lib.hid hK) (Lib.hid (ints3 (bounds_i64 w1) (bounds_i64 x1) (bounds_i64 y1))) (bounds_i64 x2) (bounds_i64 y2)).mono fun e W' ⟨he, hb⟩ => ?_
  subst he
  exact ⟨_, rfl, law_post laid_out readable rfl rfl Tryd.underlying4 hW' rfl rfl rfl hb⟩

theorem over : Rows.receiptsMeansRow.holds Tryd.pinned (OpenSpec.ofChange Rows.receiptsMeansSpec) :=
  OpenClaim.holds_of_wide 5 Tryd.f5 rfl rfl rfl rfl rfl rfl rfl ⟨rfl, rfl, rfl, rfl, rfl⟩ rfl rfl rfl rfl rfl (by kernel_rfl) Tryd.func5 (by kernel_rfl)
    (of_decide_eq_true (by kernel_rfl)) (by unfold Func.isWrapper; first | (rw [if_pos (by decide +kernel)]; kernel_rfl) | (rw [if_neg (by decide +kernel)]; exact ⟨rfl, rfl⟩))
    (fun os started H enc _ => lifted os started H enc)

/-- the statement: the tied card -/
theorem proved : Rows.ReceiptsMeansCardSaid :=
  Claim7.holds_tied_plain_at .later [] [.data] true (true, "6a74bf4fb0f8714b97243300452f04d842f8285a55243ab119fe20efcdbd8f15") true
    over (fun _ h => by cases h) (by kernel_rfl) (fun _ h => by cases h) receiptsMeans_row_tie rfl ⟨rfl, rfl⟩ (by kernel_rfl) rfl
    (fun f fn hf hfn => by
      obtain rfl : f = 5 := Option.some.inj ((show Tryd.prog.funcNamed "franking/frankinglaw43.ReceiptsMeans" = some 5 by kernel_rfl).symm.trans hf) |>.symm
      obtain rfl : fn = Tryd.f5 := (Option.some.inj (Tryd.func5.symm.trans hfn)).symm
      exact ⟨by kernel_rfl, fun j t ht => by
        rw [Tryd.params5] at ht
        have hm : t ∈ [3, 23, 23, 3] := by simpa using Array.mem_of_getElem? ht
        have hall : ([3, 23, 23, 3].all fun u => !Tryd.prog.wantsStandIn u) = true := by kernel_rfl
        exact (show Tryd.prog.wantsStandIn t = false by simpa using List.all_eq_true.1 hall t hm)⟩)
    (by kernel_rfl)
end receiptsMeans
end Go.Proofs.YtpjobllfiimdkaaDoor
