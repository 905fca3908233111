/- For every number and disk, New, Check and Restart agree with the reference. No condition. -/
import Derived.Test.YtackklbifppfeaaDskFrm
import Derived.Deep.DeepCutAuto
namespace Go.Proofs.Ytackklbifppfeaa
open Go.ChangeShapes Go.WideShapes Go.ChangeAt Go.RowKit Go.WideElems
set_option linter.unusedVariables false
set_option linter.unusedSimpArgs false

set_option maxRecDepth 100000 in
set_option maxHeartbeats 4000000 in
theorem diskNewSpec_walk (a : Int) (d : Dk) (w : World) (D1 : Hid (DkOk w d)) : Calls Try.prog 3 #[.int .i64 a, .agg d.c] w fun e w' => e = .returned (.bool true) ∧ Below w.heap.size w w' := by
  go_enter Try.func3, Try.ntmps3
  have BB := Lib.hid (Below.refl w.heap.size w)
  have hb := bel_alloc1 w (.cells d.c 25)
  replace D1 := Lib.hid (D1.out.below hb)
  replace BB := Lib.hid (BB.out.trans ((hb).mono BB.out.size))
  clear hb
  have V3 := Lib.hid (Blk.new w d.c 25)
  go_upto_region 1 with fail
  generalize World.alloc w _ = W1 at BB D1 V3 ⊢
  generalize w.heap.size = nV3 at V3 ⊢
  go_wp2_with fail
  refine (sane_any _).mono ?_
  rintro e W2 ⟨rfl, hb⟩
  replace D1 := Lib.hid (D1.out.below hb)
  replace V3 := Lib.hid (V3.out.below hb V3.out.lt)
  replace BB := Lib.hid (BB.out.trans ((hb).mono BB.out.size))
  clear hb
  by_cases h61 : 60 < a
  case pos =>
    by_cases h62 : a ≤ 4096
    case pos =>
      go_wp2_with fail
      go_ret
      exact ⟨rfl, BB.out⟩
    case neg =>
      have cV30 := V3.out.cell 0
      have cV31 := V3.out.cell 1
      have cV32 := V3.out.cell 2
      have cV33 := V3.out.cell 3
      have lV3 := V3.out.lt
      go_wp2_with fail
      refine (few_L d _ D1).mono ?_
      rintro e W3 ⟨⟨q, rfl⟩, hb⟩
      replace D1 := Lib.hid (D1.out.below hb)
      replace V3 := Lib.hid (V3.out.below hb V3.out.lt)
      replace BB := Lib.hid (BB.out.trans ((hb).mono BB.out.size))
      clear hb
      clear cV30 cV31 cV32 cV33 lV3
      cases q with
      | false =>
        go_wp2_with fail
        go_ret
        exact ⟨rfl, BB.out⟩
      | true =>
        go_wp2_with fail
        refine (new_X a _).mono ?_
        rintro e W4 ⟨⟨x, ex, rfl, hd, hf⟩, hb⟩
        replace D1 := Lib.hid (D1.out.below hb)
        replace V3 := Lib.hid (V3.out.below hb V3.out.lt)
        replace BB := Lib.hid (BB.out.trans ((hb).mono BB.out.size))
        clear hb
        have DX := Lib.hid hd
        have FX := Lib.hid hf
        clear hd hf
        have hb := bel_alloc1 W4 (.cells x.c 25)
        replace D1 := Lib.hid (D1.out.below hb)
        replace V3 := Lib.hid (V3.out.below hb V3.out.lt)
        replace DX := Lib.hid (DX.out.below hb)
        replace BB := Lib.hid (BB.out.trans ((hb).mono BB.out.size))
        clear hb
        have V5 := Lib.hid (Blk.new W4 x.c 25)
        go_upto_region 6 with fail
        generalize World.alloc W4 _ = W5 at BB D1 V3 DX V5 ⊢
        generalize W4.heap.size = nV5 at V5 ⊢
        go_wp2_with fail
        refine (rnew_X a _).mono ?_
        rintro e W6 ⟨⟨y, ey, rfl, hd, hf⟩, hb⟩
        replace D1 := Lib.hid (D1.out.below hb)
        replace V3 := Lib.hid (V3.out.below hb V3.out.lt)
        replace DX := Lib.hid (DX.out.below hb)
        replace V5 := Lib.hid (V5.out.below hb V5.out.lt)
        replace BB := Lib.hid (BB.out.trans ((hb).mono BB.out.size))
        clear hb
        have DY := Lib.hid hd
        have FY := Lib.hid hf
        clear hd hf
        have hb := bel_alloc1 W6 (.cells y.c 25)
        replace D1 := Lib.hid (D1.out.below hb)
        replace V3 := Lib.hid (V3.out.below hb V3.out.lt)
        replace DX := Lib.hid (DX.out.below hb)
        replace V5 := Lib.hid (V5.out.below hb V5.out.lt)
        replace DY := Lib.hid (DY.out.below hb)
        replace BB := Lib.hid (BB.out.trans ((hb).mono BB.out.size))
        clear hb
        have V7 := Lib.hid (Blk.new W6 y.c 25)
        go_upto_region 7 with fail
        generalize World.alloc W6 _ = W7 at BB D1 V3 DX V5 DY V7 ⊢
        generalize W6.heap.size = nV7 at V7 ⊢
        obtain ⟨hal, rfl⟩ := newX_same DX.out DY.out FX.out FY.out
        have AL := Lib.hid hal
        clear hal
        refine wp_region_any (by kernel_rfl) ?_
        change wpAny _ _ _ _ _ _ _ (World.drew _)
        generalize hWD : World.drew _ = W
        have V3W := Lib.hid (show Blk W nV3 d.c 25 by rw [← hWD]; exact V3.out)
        have V5W := Lib.hid (show Blk W nV5 x.c 25 by rw [← hWD]; exact V5.out)
        have V7W := Lib.hid (show Blk W nV7 y.c 25 by rw [← hWD]; exact V7.out)
        have D1W := Lib.hid (show DkOk W d by rw [← hWD]; exact D1.out.below ((Below.refl _ _).drew))
        have DXW := Lib.hid (show DkOk W x by rw [← hWD]; exact DX.out.below ((Below.refl _ _).drew))
        have DYW := Lib.hid (show DkOk W y by rw [← hWD]; exact DY.out.below ((Below.refl _ _).drew))
        have BW := Lib.hid (show Below w.heap.size w W by rw [← hWD]; exact BB.out.drew)
        clear hWD
        have hCD : ∀ u, Ext W u → Ext W u := fun u hu => hu
        refine region_U (D := Ext W) (Ext W) [22] (Ext.refl W) ?_
        refine anyU_takeD (i := 0) (v := .agg x.c) 32 rfl rfl (by kernel_rfl) (by kernel_rfl) (by kernel_rfl) (fun _ _ _ h => h) (by kernel_rfl) (Ext.stable _) hCD (yieldsU_val rfl (fun u hu => by have c := (V5W.out.below hu V5W.out.lt).cell 0; have c1 := (V5W.out.below hu V5W.out.lt).cell 1; have c2 := (V5W.out.below hu V5W.out.lt).cell 2; have c3 := (V5W.out.below hu V5W.out.lt).cell 3; simp at c c1 c2 c3; go_simp)) ?_
        refine anyU_takeD (i := 1) (v := .agg y.c) 33 rfl rfl (by kernel_rfl) (by kernel_rfl) (by kernel_rfl) (fun _ _ _ h => h) (by kernel_rfl) (Ext.stable _) hCD (yieldsU_val rfl (fun u hu => by have c := (V7W.out.below hu V7W.out.lt).cell 0; have c1 := (V7W.out.below hu V7W.out.lt).cell 1; have c2 := (V7W.out.below hu V7W.out.lt).cell 2; have c3 := (V7W.out.below hu V7W.out.lt).cell 3; simp at c c1 c2 c3; go_simp)) ?_
        refine anyU_takeD (i := 2) (v := .bool true) 34 rfl rfl (by kernel_rfl) (by kernel_rfl) (by kernel_rfl) (fun _ _ _ h => h) (by kernel_rfl) (Ext.stable _) hCD (yieldsU_call rfl 14 _ _ rfl #[.agg x.c, .agg y.c] (by simp [Act.eval, Act.put]) (fun u => by go_simp) (fun u hu => same_L x y u (Lib.hid (DXW.out.below hu)) (Lib.hid (DYW.out.below hu)) AL)) ?_
        refine anyU_takeD (i := 3) (v := .bool true) 35 rfl rfl (by kernel_rfl) (by kernel_rfl) (by kernel_rfl) (fun _ _ _ h => h) (by kernel_rfl) (Ext.stable _) hCD (yieldsU_val rfl (fun u hu => by go_simp)) ?_
        refine anyU_takeD (i := 4) (v := .int .i64 ex) 36 rfl rfl (by kernel_rfl) (by kernel_rfl) (by kernel_rfl) (fun _ _ _ h => h) (by kernel_rfl) (Ext.stable _) hCD (yieldsU_val rfl (fun u hu => by go_simp)) ?_
        refine anyU_takeD (i := 5) (v := .int .i64 ex) 37 rfl rfl (by kernel_rfl) (by kernel_rfl) (by kernel_rfl) (fun _ _ _ h => h) (by kernel_rfl) (Ext.stable _) hCD (yieldsU_val rfl (fun u hu => by go_simp)) ?_
        simp only [Act.put, List.setIfInBounds_toArray, List.set_cons_succ, List.set_cons_zero]
        refine anyU_takeD (i := 6) (v := .bool true) 38 rfl rfl (by kernel_rfl) (by kernel_rfl) (by kernel_rfl) (fun _ _ _ h => h) (by kernel_rfl) (Ext.stable _) hCD (yieldsU_val rfl (fun u hu => by go_simp)) ?_
        refine anyU_takeD (i := 7) (v := .bool true) 39 rfl rfl (by kernel_rfl) (by kernel_rfl) (by kernel_rfl) (fun _ _ _ h => h) (by kernel_rfl) (Ext.stable _) hCD (yieldsU_val rfl (fun u hu => by go_simp)) ?_
        refine anyU_takeD (i := 8) (v := .bool true) 40 rfl rfl (by kernel_rfl) (by kernel_rfl) (by kernel_rfl) (fun _ _ _ h => h) (by kernel_rfl) (Ext.stable _) hCD (yieldsU_val rfl (fun u hu => by go_simp)) ?_
        refine anyU_takeD (i := 9) (v := .agg d.c) 41 rfl rfl (by kernel_rfl) (by kernel_rfl) (by kernel_rfl) (fun _ _ _ h => h) (by kernel_rfl) (Ext.stable _) hCD (yieldsU_val rfl (fun u hu => by have c := (V3W.out.below hu V3W.out.lt).cell 0; have c1 := (V3W.out.below hu V3W.out.lt).cell 1; have c2 := (V3W.out.below hu V3W.out.lt).cell 2; have c3 := (V3W.out.below hu V3W.out.lt).cell 3; simp at c c1 c2 c3; go_simp)) ?_
        refine anyU_takeD (i := 10) (v := .int .i64 (chkE d.left d.rs d.ws)) 42 rfl rfl (by kernel_rfl) (by kernel_rfl) (by kernel_rfl) (fun _ _ _ h => h) (by kernel_rfl) (Ext.stable _) hCD (yieldsU_call rfl 15 _ _ rfl #[.agg d.c] (by simp [Act.eval, Act.put]) (fun u => by go_simp) (fun u hu => check_X d u (Lib.hid (D1W.out.below hu)))) ?_
        simp only [Act.put, List.setIfInBounds_toArray, List.set_cons_succ, List.set_cons_zero]
        refine anyU_takeD (i := 11) (v := .agg d.c) 43 rfl rfl (by kernel_rfl) (by kernel_rfl) (by kernel_rfl) (fun _ _ _ h => h) (by kernel_rfl) (Ext.stable _) hCD (yieldsU_val rfl (fun u hu => by have c := (V3W.out.below hu V3W.out.lt).cell 0; have c1 := (V3W.out.below hu V3W.out.lt).cell 1; have c2 := (V3W.out.below hu V3W.out.lt).cell 2; have c3 := (V3W.out.below hu V3W.out.lt).cell 3; simp at c c1 c2 c3; go_simp)) ?_
        refine anyU_takeD (i := 12) (v := .int .i64 (chkE d.left d.rs d.ws)) 44 rfl rfl (by kernel_rfl) (by kernel_rfl) (by kernel_rfl) (fun _ _ _ h => h) (by kernel_rfl) (Ext.stable _) hCD (yieldsU_call rfl 16 _ _ rfl #[.agg d.c] (by simp [Act.eval, Act.put]) (fun u => by go_simp) (fun u hu => rcheck_X d u (Lib.hid (D1W.out.below hu)))) ?_
        refine anyU_takeD (i := 13) (v := .bool true) 45 rfl rfl (by kernel_rfl) (by kernel_rfl) (by kernel_rfl) (fun _ _ _ h => h) (by kernel_rfl) (Ext.stable _) hCD (yieldsU_val rfl (fun u hu => by go_simp)) ?_
        refine anyU_takeD (i := 14) (v := .bool true) 46 rfl rfl (by kernel_rfl) (by kernel_rfl) (by kernel_rfl) (fun _ _ _ h => h) (by kernel_rfl) (Ext.stable _) hCD (yieldsU_val rfl (fun u hu => by go_simp)) ?_
        refine anyU_takeD (i := 15) (v := .bool true) 47 rfl rfl (by kernel_rfl) (by kernel_rfl) (by kernel_rfl) (fun _ _ _ h => h) (by kernel_rfl) (Ext.stable _) hCD (yieldsU_val rfl (fun u hu => by go_simp)) ?_
        simp only [Act.put, List.setIfInBounds_toArray, List.set_cons_succ, List.set_cons_zero]
        refine anyU_takeD (i := 16) (v := .agg d.c) 48 rfl rfl (by kernel_rfl) (by kernel_rfl) (by kernel_rfl) (fun _ _ _ h => h) (by kernel_rfl) (Ext.stable _) hCD (yieldsU_val rfl (fun u hu => by have c := (V3W.out.below hu V3W.out.lt).cell 0; have c1 := (V3W.out.below hu V3W.out.lt).cell 1; have c2 := (V3W.out.below hu V3W.out.lt).cell 2; have c3 := (V3W.out.below hu V3W.out.lt).cell 3; simp at c c1 c2 c3; go_simp)) ?_
        refine anyU_takeD (i := 17) (v := .agg (dskC d.ps d.ns d.cs none 0 0 (-1) false)) 49 rfl rfl (by kernel_rfl) (by kernel_rfl) (by kernel_rfl) (fun _ _ _ h => h) (by kernel_rfl) (Ext.stable _) hCD (yieldsU_call rfl 17 _ _ rfl #[.agg d.c] (by simp [Act.eval, Act.put]) (fun u => by go_simp) (fun u hu => restart_L d u (Lib.hid (D1W.out.below hu)))) ?_
        refine anyU_takeD (i := 18) (v := .agg d.c) 50 rfl rfl (by kernel_rfl) (by kernel_rfl) (by kernel_rfl) (fun _ _ _ h => h) (by kernel_rfl) (Ext.stable _) hCD (yieldsU_val rfl (fun u hu => by have c := (V3W.out.below hu V3W.out.lt).cell 0; have c1 := (V3W.out.below hu V3W.out.lt).cell 1; have c2 := (V3W.out.below hu V3W.out.lt).cell 2; have c3 := (V3W.out.below hu V3W.out.lt).cell 3; simp at c c1 c2 c3; go_simp)) ?_
        refine anyU_takeD (i := 19) (v := .agg (dskC d.ps d.ns d.cs none 0 0 (-1) false)) 51 rfl rfl (by kernel_rfl) (by kernel_rfl) (by kernel_rfl) (fun _ _ _ h => h) (by kernel_rfl) (Ext.stable _) hCD (yieldsU_call rfl 18 _ _ rfl #[.agg d.c] (by simp [Act.eval, Act.put]) (fun u => by go_simp) (fun u hu => rrestart_L d u (Lib.hid (D1W.out.below hu)))) ?_
        simp only [Act.put, List.setIfInBounds_toArray, List.set_cons_succ, List.set_cons_zero]
        refine anyU_takeD (i := 20) (v := .bool true) 52 rfl rfl (by kernel_rfl) (by kernel_rfl) (by kernel_rfl) (fun _ _ _ h => h) (by kernel_rfl) (Ext.stable _) hCD (yieldsU_call rfl 14 _ _ rfl #[.agg (dskC d.ps d.ns d.cs none 0 0 (-1) false), .agg (dskC d.ps d.ns d.cs none 0 0 (-1) false)] (by simp [Act.eval, Act.put]) (fun u => by go_simp) (fun u hu => same_L d.re d.re u (Lib.hid (D1W.out.below hu).re) (Lib.hid (D1W.out.below hu).re) (Lib.hid (Alike.rfl' _)))) ?_
        refine anyU_takeD (i := 21) (v := .bool true) 53 rfl rfl (by kernel_rfl) (by kernel_rfl) (by kernel_rfl) (fun _ _ _ h => h) (by kernel_rfl) (Ext.stable _) hCD (yieldsU_val rfl (fun u hu => by go_simp)) ?_
        simp only [Act.put, List.setIfInBounds_toArray, List.set_cons_succ, List.set_cons_zero]
        refine anyU_tail 22 [] rfl rfl (by decide) (by kernel_rfl) ?_
        intro u2 hu2
        simp only [Act.put, List.filterMap_cons, List.filterMap_nil, List.getElem?_cons_succ, List.getElem?_cons_zero]
        have BZ := Lib.hid (BW.out.trans (Below.mono hu2 BW.out.size))
        go_wp2_with fail
        go_ret
        exact ⟨rfl, BZ.out⟩
  case neg =>
    have cV30 := V3.out.cell 0
    have cV31 := V3.out.cell 1
    have cV32 := V3.out.cell 2
    have cV33 := V3.out.cell 3
    have lV3 := V3.out.lt
    go_wp2_with fail
    refine (few_L d _ D1).mono ?_
    rintro e W3 ⟨⟨q, rfl⟩, hb⟩
    replace D1 := Lib.hid (D1.out.below hb)
    replace V3 := Lib.hid (V3.out.below hb V3.out.lt)
    replace BB := Lib.hid (BB.out.trans ((hb).mono BB.out.size))
    clear hb
    clear cV30 cV31 cV32 cV33 lV3
    cases q with
    | false =>
      go_wp2_with fail
      go_ret
      exact ⟨rfl, BB.out⟩
    | true =>
      go_wp2_with fail
      refine (new_X a _).mono ?_
      rintro e W4 ⟨⟨x, ex, rfl, hd, hf⟩, hb⟩
      replace D1 := Lib.hid (D1.out.below hb)
      replace V3 := Lib.hid (V3.out.below hb V3.out.lt)
      replace BB := Lib.hid (BB.out.trans ((hb).mono BB.out.size))
      clear hb
      have DX := Lib.hid hd
      have FX := Lib.hid hf
      clear hd hf
      have hb := bel_alloc1 W4 (.cells x.c 25)
      replace D1 := Lib.hid (D1.out.below hb)
      replace V3 := Lib.hid (V3.out.below hb V3.out.lt)
      replace DX := Lib.hid (DX.out.below hb)
      replace BB := Lib.hid (BB.out.trans ((hb).mono BB.out.size))
      clear hb
      have V5 := Lib.hid (Blk.new W4 x.c 25)
      go_upto_region 6 with fail
      generalize World.alloc W4 _ = W5 at BB D1 V3 DX V5 ⊢
      generalize W4.heap.size = nV5 at V5 ⊢
      go_wp2_with fail
      refine (rnew_X a _).mono ?_
      rintro e W6 ⟨⟨y, ey, rfl, hd, hf⟩, hb⟩
      replace D1 := Lib.hid (D1.out.below hb)
      replace V3 := Lib.hid (V3.out.below hb V3.out.lt)
      replace DX := Lib.hid (DX.out.below hb)
      replace V5 := Lib.hid (V5.out.below hb V5.out.lt)
      replace BB := Lib.hid (BB.out.trans ((hb).mono BB.out.size))
      clear hb
      have DY := Lib.hid hd
      have FY := Lib.hid hf
      clear hd hf
      have hb := bel_alloc1 W6 (.cells y.c 25)
      replace D1 := Lib.hid (D1.out.below hb)
      replace V3 := Lib.hid (V3.out.below hb V3.out.lt)
      replace DX := Lib.hid (DX.out.below hb)
      replace V5 := Lib.hid (V5.out.below hb V5.out.lt)
      replace DY := Lib.hid (DY.out.below hb)
      replace BB := Lib.hid (BB.out.trans ((hb).mono BB.out.size))
      clear hb
      have V7 := Lib.hid (Blk.new W6 y.c 25)
      go_upto_region 7 with fail
      generalize World.alloc W6 _ = W7 at BB D1 V3 DX V5 DY V7 ⊢
      generalize W6.heap.size = nV7 at V7 ⊢
      obtain ⟨hal, rfl⟩ := newX_same DX.out DY.out FX.out FY.out
      have AL := Lib.hid hal
      clear hal
      refine wp_region_any (by kernel_rfl) ?_
      change wpAny _ _ _ _ _ _ _ (World.drew _)
      generalize hWD : World.drew _ = W
      have V3W := Lib.hid (show Blk W nV3 d.c 25 by rw [← hWD]; exact V3.out)
      have V5W := Lib.hid (show Blk W nV5 x.c 25 by rw [← hWD]; exact V5.out)
      have V7W := Lib.hid (show Blk W nV7 y.c 25 by rw [← hWD]; exact V7.out)
      have D1W := Lib.hid (show DkOk W d by rw [← hWD]; exact D1.out.below ((Below.refl _ _).drew))
      have DXW := Lib.hid (show DkOk W x by rw [← hWD]; exact DX.out.below ((Below.refl _ _).drew))
      have DYW := Lib.hid (show DkOk W y by rw [← hWD]; exact DY.out.below ((Below.refl _ _).drew))
      have BW := Lib.hid (show Below w.heap.size w W by rw [← hWD]; exact BB.out.drew)
      clear hWD
      have hCD : ∀ u, Ext W u → Ext W u := fun u hu => hu
      refine region_U (D := Ext W) (Ext W) [22] (Ext.refl W) ?_
      refine anyU_takeD (i := 0) (v := .agg x.c) 32 rfl rfl (by kernel_rfl) (by kernel_rfl) (by kernel_rfl) (fun _ _ _ h => h) (by kernel_rfl) (Ext.stable _) hCD (yieldsU_val rfl (fun u hu => by have c := (V5W.out.below hu V5W.out.lt).cell 0; have c1 := (V5W.out.below hu V5W.out.lt).cell 1; have c2 := (V5W.out.below hu V5W.out.lt).cell 2; have c3 := (V5W.out.below hu V5W.out.lt).cell 3; simp at c c1 c2 c3; go_simp)) ?_
      refine anyU_takeD (i := 1) (v := .agg y.c) 33 rfl rfl (by kernel_rfl) (by kernel_rfl) (by kernel_rfl) (fun _ _ _ h => h) (by kernel_rfl) (Ext.stable _) hCD (yieldsU_val rfl (fun u hu => by have c := (V7W.out.below hu V7W.out.lt).cell 0; have c1 := (V7W.out.below hu V7W.out.lt).cell 1; have c2 := (V7W.out.below hu V7W.out.lt).cell 2; have c3 := (V7W.out.below hu V7W.out.lt).cell 3; simp at c c1 c2 c3; go_simp)) ?_
      refine anyU_takeD (i := 2) (v := .bool true) 34 rfl rfl (by kernel_rfl) (by kernel_rfl) (by kernel_rfl) (fun _ _ _ h => h) (by kernel_rfl) (Ext.stable _) hCD (yieldsU_call rfl 14 _ _ rfl #[.agg x.c, .agg y.c] (by simp [Act.eval, Act.put]) (fun u => by go_simp) (fun u hu => same_L x y u (Lib.hid (DXW.out.below hu)) (Lib.hid (DYW.out.below hu)) AL)) ?_
      refine anyU_takeD (i := 3) (v := .bool true) 35 rfl rfl (by kernel_rfl) (by kernel_rfl) (by kernel_rfl) (fun _ _ _ h => h) (by kernel_rfl) (Ext.stable _) hCD (yieldsU_val rfl (fun u hu => by go_simp)) ?_
      refine anyU_takeD (i := 4) (v := .int .i64 ex) 36 rfl rfl (by kernel_rfl) (by kernel_rfl) (by kernel_rfl) (fun _ _ _ h => h) (by kernel_rfl) (Ext.stable _) hCD (yieldsU_val rfl (fun u hu => by go_simp)) ?_
      refine anyU_takeD (i := 5) (v := .int .i64 ex) 37 rfl rfl (by kernel_rfl) (by kernel_rfl) (by kernel_rfl) (fun _ _ _ h => h) (by kernel_rfl) (Ext.stable _) hCD (yieldsU_val rfl (fun u hu => by go_simp)) ?_
      simp only [Act.put, List.setIfInBounds_toArray, List.set_cons_succ, List.set_cons_zero]
      refine anyU_takeD (i := 6) (v := .bool true) 38 rfl rfl (by kernel_rfl) (by kernel_rfl) (by kernel_rfl) (fun _ _ _ h => h) (by kernel_rfl) (Ext.stable _) hCD (yieldsU_val rfl (fun u hu => by go_simp)) ?_
      refine anyU_takeD (i := 7) (v := .bool true) 39 rfl rfl (by kernel_rfl) (by kernel_rfl) (by kernel_rfl) (fun _ _ _ h => h) (by kernel_rfl) (Ext.stable _) hCD (yieldsU_val rfl (fun u hu => by go_simp)) ?_
      refine anyU_takeD (i := 8) (v := .bool true) 40 rfl rfl (by kernel_rfl) (by kernel_rfl) (by kernel_rfl) (fun _ _ _ h => h) (by kernel_rfl) (Ext.stable _) hCD (yieldsU_val rfl (fun u hu => by go_simp)) ?_
      refine anyU_takeD (i := 9) (v := .agg d.c) 41 rfl rfl (by kernel_rfl) (by kernel_rfl) (by kernel_rfl) (fun _ _ _ h => h) (by kernel_rfl) (Ext.stable _) hCD (yieldsU_val rfl (fun u hu => by have c := (V3W.out.below hu V3W.out.lt).cell 0; have c1 := (V3W.out.below hu V3W.out.lt).cell 1; have c2 := (V3W.out.below hu V3W.out.lt).cell 2; have c3 := (V3W.out.below hu V3W.out.lt).cell 3; simp at c c1 c2 c3; go_simp)) ?_
      refine anyU_takeD (i := 10) (v := .int .i64 (chkE d.left d.rs d.ws)) 42 rfl rfl (by kernel_rfl) (by kernel_rfl) (by kernel_rfl) (fun _ _ _ h => h) (by kernel_rfl) (Ext.stable _) hCD (yieldsU_call rfl 15 _ _ rfl #[.agg d.c] (by simp [Act.eval, Act.put]) (fun u => by go_simp) (fun u hu => check_X d u (Lib.hid (D1W.out.below hu)))) ?_
      simp only [Act.put, List.setIfInBounds_toArray, List.set_cons_succ, List.set_cons_zero]
      refine anyU_takeD (i := 11) (v := .agg d.c) 43 rfl rfl (by kernel_rfl) (by kernel_rfl) (by kernel_rfl) (fun _ _ _ h => h) (by kernel_rfl) (Ext.stable _) hCD (yieldsU_val rfl (fun u hu => by have c := (V3W.out.below hu V3W.out.lt).cell 0; have c1 := (V3W.out.below hu V3W.out.lt).cell 1; have c2 := (V3W.out.below hu V3W.out.lt).cell 2; have c3 := (V3W.out.below hu V3W.out.lt).cell 3; simp at c c1 c2 c3; go_simp)) ?_
      refine anyU_takeD (i := 12) (v := .int .i64 (chkE d.left d.rs d.ws)) 44 rfl rfl (by kernel_rfl) (by kernel_rfl) (by kernel_rfl) (fun _ _ _ h => h) (by kernel_rfl) (Ext.stable _) hCD (yieldsU_call rfl 16 _ _ rfl #[.agg d.c] (by simp [Act.eval, Act.put]) (fun u => by go_simp) (fun u hu => rcheck_X d u (Lib.hid (D1W.out.below hu)))) ?_
      refine anyU_takeD (i := 13) (v := .bool true) 45 rfl rfl (by kernel_rfl) (by kernel_rfl) (by kernel_rfl) (fun _ _ _ h => h) (by kernel_rfl) (Ext.stable _) hCD (yieldsU_val rfl (fun u hu => by go_simp)) ?_
      refine anyU_takeD (i := 14) (v := .bool true) 46 rfl rfl (by kernel_rfl) (by kernel_rfl) (by kernel_rfl) (fun _ _ _ h => h) (by kernel_rfl) (Ext.stable _) hCD (yieldsU_val rfl (fun u hu => by go_simp)) ?_
      refine anyU_takeD (i := 15) (v := .bool true) 47 rfl rfl (by kernel_rfl) (by kernel_rfl) (by kernel_rfl) (fun _ _ _ h => h) (by kernel_rfl) (Ext.stable _) hCD (yieldsU_val rfl (fun u hu => by go_simp)) ?_
      simp only [Act.put, List.setIfInBounds_toArray, List.set_cons_succ, List.set_cons_zero]
      refine anyU_takeD (i := 16) (v := .agg d.c) 48 rfl rfl (by kernel_rfl) (by kernel_rfl) (by kernel_rfl) (fun _ _ _ h => h) (by kernel_rfl) (Ext.stable _) hCD (yieldsU_val rfl (fun u hu => by have c := (V3W.out.below hu V3W.out.lt).cell 0; have c1 := (V3W.out.below hu V3W.out.lt).cell 1; have c2 := (V3W.out.below hu V3W.out.lt).cell 2; have c3 := (V3W.out.below hu V3W.out.lt).cell 3; simp at c c1 c2 c3; go_simp)) ?_
      refine anyU_takeD (i := 17) (v := .agg (dskC d.ps d.ns d.cs none 0 0 (-1) false)) 49 rfl rfl (by kernel_rfl) (by kernel_rfl) (by kernel_rfl) (fun _ _ _ h => h) (by kernel_rfl) (Ext.stable _) hCD (yieldsU_call rfl 17 _ _ rfl #[.agg d.c] (by simp [Act.eval, Act.put]) (fun u => by go_simp) (fun u hu => restart_L d u (Lib.hid (D1W.out.below hu)))) ?_
      refine anyU_takeD (i := 18) (v := .agg d.c) 50 rfl rfl (by kernel_rfl) (by kernel_rfl) (by kernel_rfl) (fun _ _ _ h => h) (by kernel_rfl) (Ext.stable _) hCD (yieldsU_val rfl (fun u hu => by have c := (V3W.out.below hu V3W.out.lt).cell 0; have c1 := (V3W.out.below hu V3W.out.lt).cell 1; have c2 := (V3W.out.below hu V3W.out.lt).cell 2; have c3 := (V3W.out.below hu V3W.out.lt).cell 3; simp at c c1 c2 c3; go_simp)) ?_
      refine anyU_takeD (i := 19) (v := .agg (dskC d.ps d.ns d.cs none 0 0 (-1) false)) 51 rfl rfl (by kernel_rfl) (by kernel_rfl) (by kernel_rfl) (fun _ _ _ h => h) (by kernel_rfl) (Ext.stable _) hCD (yieldsU_call rfl 18 _ _ rfl #[.agg d.c] (by simp [Act.eval, Act.put]) (fun u => by go_simp) (fun u hu => rrestart_L d u (Lib.hid (D1W.out.below hu)))) ?_
      simp only [Act.put, List.setIfInBounds_toArray, List.set_cons_succ, List.set_cons_zero]
      refine anyU_takeD (i := 20) (v := .bool true) 52 rfl rfl (by kernel_rfl) (by kernel_rfl) (by kernel_rfl) (fun _ _ _ h => h) (by kernel_rfl) (Ext.stable _) hCD (yieldsU_call rfl 14 _ _ rfl #[.agg (dskC d.ps d.ns d.cs none 0 0 (-1) false), .agg (dskC d.ps d.ns d.cs none 0 0 (-1) false)] (by simp [Act.eval, Act.put]) (fun u => by go_simp) (fun u hu => same_L d.re d.re u (Lib.hid (D1W.out.below hu).re) (Lib.hid (D1W.out.below hu).re) (Lib.hid (Alike.rfl' _)))) ?_
      refine anyU_takeD (i := 21) (v := .bool true) 53 rfl rfl (by kernel_rfl) (by kernel_rfl) (by kernel_rfl) (fun _ _ _ h => h) (by kernel_rfl) (Ext.stable _) hCD (yieldsU_val rfl (fun u hu => by go_simp)) ?_
      simp only [Act.put, List.setIfInBounds_toArray, List.set_cons_succ, List.set_cons_zero]
      refine anyU_tail 22 [] rfl rfl (by decide) (by kernel_rfl) ?_
      intro u2 hu2
      simp only [Act.put, List.filterMap_cons, List.filterMap_nil, List.getElem?_cons_succ, List.getElem?_cons_zero]
      have BZ := Lib.hid (BW.out.trans (Below.mono hu2 BW.out.size))
      go_wp2_with fail
      go_ret
      exact ⟨rfl, BZ.out⟩

namespace diskNewSpec
theorem readable : ∀ t ∈ Try.f3.params.toList, Try.prog.readableRec t = true ∧ t < Try.prog.types.size := by
  rw [Try.params3]
  intro t ht
  simp only [List.mem_cons, List.not_mem_nil, or_false] at ht
  rcases ht with rfl | rfl
  all_goals exact ⟨by kernel_rfl, by decide +kernel⟩

set_option maxRecDepth 100000 in
theorem lifted (os : Os) (started : os.Started) (H : Type) (enc : TypeId × Value → H) :
    ReturnsInHanded {} Try.checked os 3 .any (Rows.diskNewSpecSpec.pre6 enc Try.prog Try.f3 Rows.diskNewSpecRow.domain false) (Rows.diskNewSpecSpec.post enc Try.prog Try.f3 false true false false) := by
  refine returnsInHanded_of_change (C := Try.checked) own_knob started (by kernel_rfl) Try.func3
    (ChangeSpec.witness6 (enc := enc) (C := Try.checked) false ⟨#[], #[.int .i64 0, .agg #[.slice none 0 0, .slice none 0 0, .int .i64 0, .bool false]], []⟩ 8 (by kernel_rfl) (by kernel_rfl) (by kernel_rfl) (by kernel_rfl)) ?_
  intro W base args ds gs before hval0 hW hcnd _
  have hval : ∀ (j : Nat) t v, Try.f3.params[j]? = some t → args[j]? = some v → Value.okWide Try.prog W .any base t v := hval0
  have hW' := hW
  obtain ⟨p, q, hA0, hV, rfl, hfz, hnd⟩ := hW
  have hA : DataW.TrodAll enc Try.prog W 0 (fun _ => true) true Try.f3.params.toList args.toList ds p := hA0
  rw [Try.params3] at hA hval
  obtain ⟨v0, vs0, d0, ds0, p0, q0, hargs, rfl, rfl, h0, r0⟩ := trodAll_cons hA
  obtain ⟨v1, vs1, d1, ds1, p1, q1, rfl, rfl, rfl, h1, r1⟩ := trodAll_cons r0
  obtain ⟨rfl, rfl, rfl⟩ := trodAll_nil r1
  obtain rfl : args = #[v0, v1] := by cases args; simp_all
  obtain ⟨rfl, rfl⟩ := trodVars_none hV
  obtain ⟨a0, rfl, rfl, rfl, w0⟩ := open_int Try.underlying3 (hval 0 3 v0 rfl rfl) h0
  obtain ⟨k1, rfl, hk1⟩ := open_dk (hval 1 25 v1 rfl rfl) h1
  clear hA0 hval0
  refine (diskNewSpec_walk a0 k1 W (Lib.hid hk1)).mono fun e W' ⟨he, hb⟩ => ?_
  subst he
  exact ⟨_, rfl, law_post laid_out readable rfl rfl Try.underlying4 hW' rfl rfl rfl hb⟩

theorem over : Rows.diskNewSpecRow.holds Try.pinned (OpenSpec.ofChange Rows.diskNewSpecSpec) :=
  OpenClaim.holds_of_wide 3 Try.f3 rfl rfl rfl rfl rfl rfl rfl ⟨rfl, rfl, rfl, rfl, rfl⟩ rfl rfl rfl rfl rfl (by kernel_rfl) Try.func3 (by kernel_rfl)
    (of_decide_eq_true (by kernel_rfl)) (by unfold Func.isWrapper; first | (rw [if_pos (by decide +kernel)]; kernel_rfl) | (rw [if_neg (by decide +kernel)]; exact ⟨rfl, rfl⟩))
    (fun os started H enc _ => lifted os started H enc)

/-- the statement -/
theorem proved : Rows.DiskNewSpecSaid := over
end diskNewSpec
end Go.Proofs.Ytackklbifppfeaa
