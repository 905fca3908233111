/- If anything of a return address that is right is changed, but not its tag, it is not right, or two texts have one digest. No condition. -/
import Derived.Test.YtcedmiojmepioaaGreatDoorOntSan
import Derived.Test.YtcedmiojmepioaaGreatDoorOntRf2
import Derived.Test.YtcedmiojmepioaaGreatDoorOntOpn
import Derived.Test.YtcedmiojmepioaaGreatDoorDigCard2
namespace Go.Proofs.YtcedmiojmepioaaGreatDoor
open Go.ChangeShapes Go.WideShapes Go.ChangeAt Go.RowKit Go.WideElems Go.Shelf
set_option linter.unusedVariables false
set_option linter.unusedSimpArgs false

set_option maxRecDepth 100000 in
set_option maxHeartbeats 8000000 in
theorem bound_no (l k a b : Int) (zs : List Int) (line key ta tb : Int) (w : World) (hz : Hid (zs.length = 32)) (hk : Hid (KeysAt w)) (hE : Hid (IsRC l k a b zs 160)) :
    Calls Tryz.prog 6 #[.agg (rtv l k a b zs).toArray, .int .i64 line, .int .i64 key, .agg #[.int .i64 ta, .int .i64 tb]] w fun q w' => q = .returned (.bool true) ∧ Below w.heap.size w w' := by
  have X0 := Lib.hid ((RBlk.box w l k a b hz.out).alloc (.cells #[.int .i64 ta, .int .i64 tb] 23))
  have T0 := Lib.hid (show Blk ((w.alloc (.cells (rtv l k a b zs).toArray 27)).alloc (.cells #[.int .i64 ta, .int .i64 tb] 23)) (w.heap.size + 1) #[.int .i64 ta, .int .i64 tb] 23 by have := Blk.new (w.alloc (.cells (rtv l k a b zs).toArray 27)) #[.int .i64 ta, .int .i64 tb] 23; simpa using this)
  have B0 := Lib.hid (show Below w.heap.size w ((w.alloc (.cells (rtv l k a b zs).toArray 27)).alloc (.cells #[.int .i64 ta, .int .i64 tb] 23)) from (bel_alloc1 w _).alloc (by simp) _)
  go_enter Tryz.func6, Tryz.ntmps6
  go_wp2_with (first
    | (go_at_call 7; refine (sane16_any _ (Lib.hid (hk.out.below B0.out))).mono ?_; rintro e w1 ⟨rfl, hb⟩; have B1 := Lib.hid (bel_trans B0.out hb); have X1 := Lib.hid (X0.out.bel hb); have T1 := Lib.hid (T0.out.below hb T0.out.lt); clear hb)
    | (refine list_loadR (by rfl) (.tmp 4) rfl w.heap.size rfl l k a b zs X1.out ?_)
    | (go_at_call 11; refine (rcheck_any l k a b zs 160 _ hz hE).mono ?_; rintro e w2 ⟨rfl, hb⟩; have B2 := Lib.hid (bel_trans B1.out hb); have X2 := Lib.hid (X1.out.bel hb); have T2 := Lib.hid (T1.out.below hb T1.out.lt); clear hb))
  go_ret
  exact ⟨rfl, B2.out⟩
set_option maxRecDepth 100000 in
set_option maxHeartbeats 8000000 in
theorem bound_same (l k a b : Int) (zs : List Int) (line key ta tb : Int) (w : World) (hz : Hid (zs.length = 32)) (hk : Hid (KeysAt w)) (hE : Hid (IsRC l k a b zs 0)) (hF : Hid (IsRC line key ta tb zs 0)) (EQ : ∀ w, (Op.equalIn 10000 27 (.agg (rtv line key ta tb zs).toArray) (.agg (rtv l k a b zs).toArray)).run Tryz.prog w = .ok true w) :
    Calls Tryz.prog 6 #[.agg (rtv l k a b zs).toArray, .int .i64 line, .int .i64 key, .agg #[.int .i64 ta, .int .i64 tb]] w fun q w' => q = .returned (.bool true) ∧ Below w.heap.size w w' := by
  have X0 := Lib.hid ((RBlk.box w l k a b hz.out).alloc (.cells #[.int .i64 ta, .int .i64 tb] 23))
  have T0 := Lib.hid (show Blk ((w.alloc (.cells (rtv l k a b zs).toArray 27)).alloc (.cells #[.int .i64 ta, .int .i64 tb] 23)) (w.heap.size + 1) #[.int .i64 ta, .int .i64 tb] 23 by have := Blk.new (w.alloc (.cells (rtv l k a b zs).toArray 27)) #[.int .i64 ta, .int .i64 tb] 23; simpa using this)
  have B0 := Lib.hid (show Below w.heap.size w ((w.alloc (.cells (rtv l k a b zs).toArray 27)).alloc (.cells #[.int .i64 ta, .int .i64 tb] 23)) from (bel_alloc1 w _).alloc (by simp) _)
  go_enter Tryz.func6, Tryz.ntmps6
  go_upto_region 5 with (first
    | (go_at_call 7; refine (sane16_any _ (Lib.hid (hk.out.below B0.out))).mono ?_; rintro e w1 ⟨rfl, hb⟩; have B1 := Lib.hid (bel_trans B0.out hb); have X1 := Lib.hid (X0.out.bel hb); have T1 := Lib.hid (T0.out.below hb T0.out.lt); clear hb)
    | (refine list_loadR (by rfl) (.tmp 4) rfl w.heap.size rfl l k a b zs X1.out ?_)
    | (go_at_call 11; refine (rcheck_any l k a b zs 0 _ hz hE).mono ?_; rintro e w2 ⟨rfl, hb⟩; have B2 := Lib.hid (bel_trans B1.out hb); have X2 := Lib.hid (X1.out.bel hb); have T2 := Lib.hid (T1.out.below hb T1.out.lt); clear hb))
  have t0 := T2.out.cell 0
  have t1 := T2.out.cell 1
  simp at t0 t1
  go_step
  refine list_val (by rfl) (.int .i64 line) (by go_simp) ?_
  simp only [Act.put, List.setIfInBounds_toArray, List.set_cons_succ, List.set_cons_zero]
  refine list_val (by rfl) (.int .i64 key) (by go_simp) ?_
  simp only [Act.put, List.setIfInBounds_toArray, List.set_cons_succ, List.set_cons_zero]
  refine list_val (by rfl) (.agg #[.int .i64 ta, .int .i64 tb]) (by go_simp) ?_
  simp only [Act.put, List.setIfInBounds_toArray, List.set_cons_succ, List.set_cons_zero]
  refine list_val (by rfl) (.pointer (some ⟨w.heap.size, 4, none⟩)) (by go_simp) ?_
  simp only [Act.put, List.setIfInBounds_toArray, List.set_cons_succ, List.set_cons_zero]
  refine list_loadM (by rfl) (.tmp 18) rfl w.heap.size 4 rfl zs X2.out.tag hz.out ?_
  simp only [Act.put, List.setIfInBounds_toArray, List.set_cons_succ, List.set_cons_zero]
  refine list_build (by rfl) 27 _ rfl [(0, .int .i64 line), (1, .int .i64 key), (2, .agg #[.int .i64 ta, .int .i64 tb]), (3, .agg (bv zs).toArray)] (by rfl) _ (built_r4 hz.out line key ta tb) ?_
  simp only [Act.put, List.setIfInBounds_toArray, List.set_cons_succ, List.set_cons_zero]
  go_wp2_with (refine list_storeR rfl (.tmp 9) (.tmp 20) rfl w2.heap.size rfl line key ta tb zs rfl hz.out 0 0 0 0 (List.replicate 32 0) (RBlk.new w2) ?_)
  intro w3 q3 k3
  have K3 := Lib.hid ((bel_alloc1 w2 _).trans (k3.below (Nat.le_refl _)))
  have Z3 := Lib.hid q3
  have B3 := Lib.hid (bel_trans B2.out K3.out)
  have X3 := Lib.hid (X2.out.bel K3.out)
  clear q3 k3 K3 t0 t1
  generalize w2.heap.size = zb at Z3 ⊢
  go_wp2_with (first
    | (refine list_loadR (by rfl) (.tmp 9) rfl zb rfl line key ta tb zs Z3.out ?_)
    | (refine list_loadR (by rfl) (.tmp 4) rfl w.heap.size rfl l k a b zs X3.out ?_)
    | (go_at_call 10; refine (ocheck_any line key ta tb zs 0 _ hz hF (Lib.hid (hk.out.below B3.out))).mono ?_; rintro e w4 ⟨rfl, hb⟩; have B4 := Lib.hid (bel_trans B3.out hb); clear hb))
  go_ret
  exact ⟨rfl, B4.out⟩
set_option maxRecDepth 100000 in
set_option maxHeartbeats 8000000 in
theorem bound_bad (l k a b : Int) (zs : List Int) (line key ta tb : Int) (w : World) (hz : Hid (zs.length = 32)) (hk : Hid (KeysAt w)) (hE : Hid (IsRC l k a b zs 0)) (hF : Hid (IsRC line key ta tb zs 160)) (EQ : ∀ w, (Op.equalIn 10000 27 (.agg (rtv line key ta tb zs).toArray) (.agg (rtv l k a b zs).toArray)).run Tryz.prog w = .ok false w) :
    Calls Tryz.prog 6 #[.agg (rtv l k a b zs).toArray, .int .i64 line, .int .i64 key, .agg #[.int .i64 ta, .int .i64 tb]] w fun q w' => q = .returned (.bool true) ∧ Below w.heap.size w w' := by
  have X0 := Lib.hid ((RBlk.box w l k a b hz.out).alloc (.cells #[.int .i64 ta, .int .i64 tb] 23))
  have T0 := Lib.hid (show Blk ((w.alloc (.cells (rtv l k a b zs).toArray 27)).alloc (.cells #[.int .i64 ta, .int .i64 tb] 23)) (w.heap.size + 1) #[.int .i64 ta, .int .i64 tb] 23 by have := Blk.new (w.alloc (.cells (rtv l k a b zs).toArray 27)) #[.int .i64 ta, .int .i64 tb] 23; simpa using this)
  have B0 := Lib.hid (show Below w.heap.size w ((w.alloc (.cells (rtv l k a b zs).toArray 27)).alloc (.cells #[.int .i64 ta, .int .i64 tb] 23)) from (bel_alloc1 w _).alloc (by simp) _)
  go_enter Tryz.func6, Tryz.ntmps6
  go_upto_region 5 with (first
    | (go_at_call 7; refine (sane16_any _ (Lib.hid (hk.out.below B0.out))).mono ?_; rintro e w1 ⟨rfl, hb⟩; have B1 := Lib.hid (bel_trans B0.out hb); have X1 := Lib.hid (X0.out.bel hb); have T1 := Lib.hid (T0.out.below hb T0.out.lt); clear hb)
    | (refine list_loadR (by rfl) (.tmp 4) rfl w.heap.size rfl l k a b zs X1.out ?_)
    | (go_at_call 11; refine (rcheck_any l k a b zs 0 _ hz hE).mono ?_; rintro e w2 ⟨rfl, hb⟩; have B2 := Lib.hid (bel_trans B1.out hb); have X2 := Lib.hid (X1.out.bel hb); have T2 := Lib.hid (T1.out.below hb T1.out.lt); clear hb))
  have t0 := T2.out.cell 0
  have t1 := T2.out.cell 1
  simp at t0 t1
  go_step
  refine list_val (by rfl) (.int .i64 line) (by go_simp) ?_
  simp only [Act.put, List.setIfInBounds_toArray, List.set_cons_succ, List.set_cons_zero]
  refine list_val (by rfl) (.int .i64 key) (by go_simp) ?_
  simp only [Act.put, List.setIfInBounds_toArray, List.set_cons_succ, List.set_cons_zero]
  refine list_val (by rfl) (.agg #[.int .i64 ta, .int .i64 tb]) (by go_simp) ?_
  simp only [Act.put, List.setIfInBounds_toArray, List.set_cons_succ, List.set_cons_zero]
  refine list_val (by rfl) (.pointer (some ⟨w.heap.size, 4, none⟩)) (by go_simp) ?_
  simp only [Act.put, List.setIfInBounds_toArray, List.set_cons_succ, List.set_cons_zero]
  refine list_loadM (by rfl) (.tmp 18) rfl w.heap.size 4 rfl zs X2.out.tag hz.out ?_
  simp only [Act.put, List.setIfInBounds_toArray, List.set_cons_succ, List.set_cons_zero]
  refine list_build (by rfl) 27 _ rfl [(0, .int .i64 line), (1, .int .i64 key), (2, .agg #[.int .i64 ta, .int .i64 tb]), (3, .agg (bv zs).toArray)] (by rfl) _ (built_r4 hz.out line key ta tb) ?_
  simp only [Act.put, List.setIfInBounds_toArray, List.set_cons_succ, List.set_cons_zero]
  go_wp2_with (refine list_storeR rfl (.tmp 9) (.tmp 20) rfl w2.heap.size rfl line key ta tb zs rfl hz.out 0 0 0 0 (List.replicate 32 0) (RBlk.new w2) ?_)
  intro w3 q3 k3
  have K3 := Lib.hid ((bel_alloc1 w2 _).trans (k3.below (Nat.le_refl _)))
  have Z3 := Lib.hid q3
  have B3 := Lib.hid (bel_trans B2.out K3.out)
  have X3 := Lib.hid (X2.out.bel K3.out)
  clear q3 k3 K3 t0 t1
  generalize w2.heap.size = zb at Z3 ⊢
  go_upto_region 8 with (first
    | (refine list_loadR (by rfl) (.tmp 9) rfl zb rfl line key ta tb zs Z3.out ?_)
    | (refine list_loadR (by rfl) (.tmp 4) rfl w.heap.size rfl l k a b zs X3.out ?_))
  refine wp_region_any (by kernel_rfl) ?_
  change wpAny _ _ _ _ _ _ _ (World.drew _)
  generalize hWD : World.drew _ = W
  have BW := Lib.hid (show Below w.heap.size w W by rw [← hWD]; exact B3.out.drew)
  have XW := Lib.hid (show RBlk W w.heap.size l k a b zs by rw [← hWD]; exact X3.out)
  have ZW := Lib.hid (show RBlk W zb line key ta tb zs by rw [← hWD]; exact Z3.out)
  clear hWD
  have hCD : ∀ u, Ext W u → Ext W u := fun u hu => hu
  refine region_U (D := Ext W) (Ext W) [10] (Ext.refl W) ?_
  refine anyU_takeP (i := 0) (j := 10) (v := .agg (rtv line key ta tb zs).toArray) 27 [] rfl rfl (by kernel_rfl) (by kernel_rfl) (by kernel_rfl) (fun _ _ _ h => h) (by kernel_rfl) (Ext.stable _) hCD (yieldsU_of_C (yields_loadR (by rfl) (.tmp 9) rfl zb rfl line key ta tb zs hz.out (fun u hu => ZW.out.bel hu))) ?_
  refine anyU_takeP (i := 1) (j := 10) (v := .int .i64 160) 28 [] rfl rfl (by kernel_rfl) (by kernel_rfl) (by kernel_rfl) (fun _ _ _ h => h) (by kernel_rfl) (Ext.stable _) hCD (yieldsU_call rfl 10 _ _ rfl #[.agg (rtv line key ta tb zs).toArray] (by simp [Act.eval, Act.put]) (fun u => by go_simp) (fun u hu => ocheck_any line key ta tb zs 160 u hz hF (Lib.hid ((hk.out.below BW.out).below hu)))) ?_
  refine anyU_takeP (i := 2) (j := 10) (v := .bool true) 29 [] rfl rfl (by kernel_rfl) (by kernel_rfl) (by kernel_rfl) (fun _ _ _ h => h) (by kernel_rfl) (Ext.stable _) hCD (yieldsU_val rfl (fun u hu => by go_simp)) ?_
  refine anyU_takeP (i := 3) (j := 10) (v := .bool true) 30 [] rfl rfl (by kernel_rfl) (by kernel_rfl) (by kernel_rfl) (fun _ _ _ h => h) (by kernel_rfl) (Ext.stable _) hCD (yieldsU_val rfl (fun u hu => by go_simp)) ?_
  simp only [Act.put, List.setIfInBounds_toArray, List.set_cons_succ, List.set_cons_zero]
  refine anyU_takeP (i := 4) (j := 10) (v := undef) 31 [] rfl rfl (by kernel_rfl) (by kernel_rfl) (by kernel_rfl) (fun _ _ _ h => h) (by kernel_rfl) (Ext.stable _) hCD (.inr ⟨by rfl, rfl⟩) ?_
  refine anyU_takeP (i := 5) (j := 10) (v := undef) 32 [] rfl rfl (by kernel_rfl) (by kernel_rfl) (by kernel_rfl) (fun _ _ _ h => h) (by kernel_rfl) (Ext.stable _) hCD (.inr ⟨by rfl, rfl⟩) ?_
  refine anyU_takeP (i := 6) (j := 10) (v := undef) 33 [] rfl rfl (by kernel_rfl) (by kernel_rfl) (by kernel_rfl) (fun _ _ _ h => h) (by kernel_rfl) (Ext.stable _) hCD (.inr ⟨by rfl, rfl⟩) ?_
  refine anyU_takeP (i := 7) (j := 10) (v := undef) 34 [] rfl rfl (by kernel_rfl) (by kernel_rfl) (by kernel_rfl) (fun _ _ _ h => h) (by kernel_rfl) (Ext.stable _) hCD (.inr ⟨by rfl, rfl⟩) ?_
  refine anyU_takeP (i := 8) (j := 10) (v := undef) 35 [] rfl rfl (by kernel_rfl) (by kernel_rfl) (by kernel_rfl) (fun _ _ _ h => h) (by kernel_rfl) (Ext.stable _) hCD (.inr ⟨by rfl, rfl⟩) ?_
  simp only [Act.put, List.setIfInBounds_toArray, List.set_cons_succ, List.set_cons_zero]
  refine anyU_takeP (i := 9) (j := 10) (v := .bool true) 36 [] rfl rfl (by kernel_rfl) (by kernel_rfl) (by kernel_rfl) (fun _ _ _ h => h) (by kernel_rfl) (Ext.stable _) hCD (yieldsU_val rfl (fun u hu => by go_simp)) ?_
  refine anyU_tail 10 [] rfl rfl (by decide) (by kernel_rfl) ?_
  intro u9 hu9
  simp only [Act.put, List.filterMap_cons, List.filterMap_nil, List.getElem?_cons_succ, List.getElem?_cons_zero]
  have B9 := Lib.hid (bel_trans BW.out hu9)
  clear hu9
  go_wp2_with fail
  go_ret
  exact ⟨rfl, B9.out⟩
set_option maxRecDepth 100000 in
set_option maxHeartbeats 8000000 in
theorem bound_two (l k a b : Int) (zs : List Int) (line key ta tb : Int) (w : World) (hz : Hid (zs.length = 32)) (hk : Hid (KeysAt w)) (hE : Hid (IsRC l k a b zs 0)) (hF : Hid (IsRC line key ta tb zs 0)) (EQ : ∀ w, (Op.equalIn 10000 27 (.agg (rtv line key ta tb zs).toArray) (.agg (rtv l k a b zs).toArray)).run Tryz.prog w = .ok false w) (hoz : Hid (∀ x ∈ intsA [line, key, ta, tb], x.ok)) (hox : Hid (∀ x ∈ intsA [l, k, a, b], x.ok)) (hdz : Hid (IsTag line key ta tb zs)) (hdx : Hid (IsTag l k a b zs)) :
    Calls Tryz.prog 6 #[.agg (rtv l k a b zs).toArray, .int .i64 line, .int .i64 key, .agg #[.int .i64 ta, .int .i64 tb]] w fun q w' => q = .returned (.bool true) ∧ Below w.heap.size w w' := by
  have X0 := Lib.hid ((RBlk.box w l k a b hz.out).alloc (.cells #[.int .i64 ta, .int .i64 tb] 23))
  have T0 := Lib.hid (show Blk ((w.alloc (.cells (rtv l k a b zs).toArray 27)).alloc (.cells #[.int .i64 ta, .int .i64 tb] 23)) (w.heap.size + 1) #[.int .i64 ta, .int .i64 tb] 23 by have := Blk.new (w.alloc (.cells (rtv l k a b zs).toArray 27)) #[.int .i64 ta, .int .i64 tb] 23; simpa using this)
  have B0 := Lib.hid (show Below w.heap.size w ((w.alloc (.cells (rtv l k a b zs).toArray 27)).alloc (.cells #[.int .i64 ta, .int .i64 tb] 23)) from (bel_alloc1 w _).alloc (by simp) _)
  go_enter Tryz.func6, Tryz.ntmps6
  go_upto_region 5 with (first
    | (go_at_call 7; refine (sane16_any _ (Lib.hid (hk.out.below B0.out))).mono ?_; rintro e w1 ⟨rfl, hb⟩; have B1 := Lib.hid (bel_trans B0.out hb); have X1 := Lib.hid (X0.out.bel hb); have T1 := Lib.hid (T0.out.below hb T0.out.lt); clear hb)
    | (refine list_loadR (by rfl) (.tmp 4) rfl w.heap.size rfl l k a b zs X1.out ?_)
    | (go_at_call 11; refine (rcheck_any l k a b zs 0 _ hz hE).mono ?_; rintro e w2 ⟨rfl, hb⟩; have B2 := Lib.hid (bel_trans B1.out hb); have X2 := Lib.hid (X1.out.bel hb); have T2 := Lib.hid (T1.out.below hb T1.out.lt); clear hb))
  have t0 := T2.out.cell 0
  have t1 := T2.out.cell 1
  simp at t0 t1
  go_step
  refine list_val (by rfl) (.int .i64 line) (by go_simp) ?_
  simp only [Act.put, List.setIfInBounds_toArray, List.set_cons_succ, List.set_cons_zero]
  refine list_val (by rfl) (.int .i64 key) (by go_simp) ?_
  simp only [Act.put, List.setIfInBounds_toArray, List.set_cons_succ, List.set_cons_zero]
  refine list_val (by rfl) (.agg #[.int .i64 ta, .int .i64 tb]) (by go_simp) ?_
  simp only [Act.put, List.setIfInBounds_toArray, List.set_cons_succ, List.set_cons_zero]
  refine list_val (by rfl) (.pointer (some ⟨w.heap.size, 4, none⟩)) (by go_simp) ?_
  simp only [Act.put, List.setIfInBounds_toArray, List.set_cons_succ, List.set_cons_zero]
  refine list_loadM (by rfl) (.tmp 18) rfl w.heap.size 4 rfl zs X2.out.tag hz.out ?_
  simp only [Act.put, List.setIfInBounds_toArray, List.set_cons_succ, List.set_cons_zero]
  refine list_build (by rfl) 27 _ rfl [(0, .int .i64 line), (1, .int .i64 key), (2, .agg #[.int .i64 ta, .int .i64 tb]), (3, .agg (bv zs).toArray)] (by rfl) _ (built_r4 hz.out line key ta tb) ?_
  simp only [Act.put, List.setIfInBounds_toArray, List.set_cons_succ, List.set_cons_zero]
  go_wp2_with (refine list_storeR rfl (.tmp 9) (.tmp 20) rfl w2.heap.size rfl line key ta tb zs rfl hz.out 0 0 0 0 (List.replicate 32 0) (RBlk.new w2) ?_)
  intro w3 q3 k3
  have K3 := Lib.hid ((bel_alloc1 w2 _).trans (k3.below (Nat.le_refl _)))
  have Z3 := Lib.hid q3
  have B3 := Lib.hid (bel_trans B2.out K3.out)
  have X3 := Lib.hid (X2.out.bel K3.out)
  clear q3 k3 K3 t0 t1
  generalize w2.heap.size = zb at Z3 ⊢
  have EQD := eqDig_same zs hz.out
  go_upto_region 8 with (first
    | (refine list_loadR (by rfl) (.tmp 9) rfl zb rfl line key ta tb zs Z3.out ?_)
    | (refine list_loadR (by rfl) (.tmp 4) rfl w.heap.size rfl l k a b zs X3.out ?_))
  refine wp_region_any (by kernel_rfl) ?_
  change wpAny _ _ _ _ _ _ _ (World.drew _)
  generalize hWD : World.drew _ = W
  have BW := Lib.hid (show Below w.heap.size w W by rw [← hWD]; exact B3.out.drew)
  have XW := Lib.hid (show RBlk W w.heap.size l k a b zs by rw [← hWD]; exact X3.out)
  have ZW := Lib.hid (show RBlk W zb line key ta tb zs by rw [← hWD]; exact Z3.out)
  clear hWD
  have hCD : ∀ u, Ext W u → Ext W u := fun u hu => hu
  refine region_U (D := Ext W) (Ext W) [10] (Ext.refl W) ?_
  refine anyU_takeP (i := 0) (j := 10) (v := .agg (rtv line key ta tb zs).toArray) 27 [] rfl rfl (by kernel_rfl) (by kernel_rfl) (by kernel_rfl) (fun _ _ _ h => h) (by kernel_rfl) (Ext.stable _) hCD (yieldsU_of_C (yields_loadR (by rfl) (.tmp 9) rfl zb rfl line key ta tb zs hz.out (fun u hu => ZW.out.bel hu))) ?_
  refine anyU_takeP (i := 1) (j := 10) (v := .int .i64 0) 28 [] rfl rfl (by kernel_rfl) (by kernel_rfl) (by kernel_rfl) (fun _ _ _ h => h) (by kernel_rfl) (Ext.stable _) hCD (yieldsU_call rfl 10 _ _ rfl #[.agg (rtv line key ta tb zs).toArray] (by simp [Act.eval, Act.put]) (fun u => by go_simp) (fun u hu => ocheck_any line key ta tb zs 0 u hz hF (Lib.hid ((hk.out.below BW.out).below hu)))) ?_
  refine anyU_takeP (i := 2) (j := 10) (v := .bool false) 29 [] rfl rfl (by kernel_rfl) (by kernel_rfl) (by kernel_rfl) (fun _ _ _ h => h) (by kernel_rfl) (Ext.stable _) hCD (yieldsU_val rfl (fun u hu => by go_simp)) ?_
  refine anyU_takeP (i := 3) (j := 10) (v := .bool false) 30 [] rfl rfl (by kernel_rfl) (by kernel_rfl) (by kernel_rfl) (fun _ _ _ h => h) (by kernel_rfl) (Ext.stable _) hCD (yieldsU_val rfl (fun u hu => by go_simp)) ?_
  simp only [Act.put, List.setIfInBounds_toArray, List.set_cons_succ, List.set_cons_zero]
  refine anyU_takeP (i := 4) (j := 10) (v := .agg (rtv line key ta tb zs).toArray) 31 [] rfl rfl (by kernel_rfl) (by kernel_rfl) (by kernel_rfl) (fun _ _ _ h => h) (by kernel_rfl) (Ext.stable _) hCD (yieldsU_of_C (yields_loadR (by rfl) (.tmp 9) rfl zb rfl line key ta tb zs hz.out (fun u hu => ZW.out.bel hu))) ?_
  refine anyU_takeP (i := 5) (j := 10) (v := .agg (bv zs).toArray) 32 [] rfl rfl (by kernel_rfl) (by kernel_rfl) (by kernel_rfl) (fun _ _ _ h => h) (by kernel_rfl) (Ext.stable _) hCD (yieldsU_call rfl 20 _ _ rfl #[.agg (rtv line key ta tb zs).toArray] (by simp [Act.eval, Act.put]) (fun u => by go_simp) (fun u hu => rtag_is line key ta tb zs u hz hoz zs hdz)) ?_
  refine anyU_takeP (i := 6) (j := 10) (v := .agg (rtv l k a b zs).toArray) 33 [] rfl rfl (by kernel_rfl) (by kernel_rfl) (by kernel_rfl) (fun _ _ _ h => h) (by kernel_rfl) (Ext.stable _) hCD (yieldsU_of_C (yields_loadR (by rfl) (.tmp 4) rfl w.heap.size rfl l k a b zs hz.out (fun u hu => XW.out.bel hu))) ?_
  refine anyU_takeP (i := 7) (j := 10) (v := .agg (bv zs).toArray) 34 [] rfl rfl (by kernel_rfl) (by kernel_rfl) (by kernel_rfl) (fun _ _ _ h => h) (by kernel_rfl) (Ext.stable _) hCD (yieldsU_call rfl 20 _ _ rfl #[.agg (rtv l k a b zs).toArray] (by simp [Act.eval, Act.put]) (fun u => by go_simp) (fun u hu => rtag_is l k a b zs u hz hox zs hdx)) ?_
  simp only [Act.put, List.setIfInBounds_toArray, List.set_cons_succ, List.set_cons_zero]
  refine anyU_takeP (i := 8) (j := 10) (v := .bool true) 35 [] rfl rfl (by kernel_rfl) (by kernel_rfl) (by kernel_rfl) (fun _ _ _ h => h) (by kernel_rfl) (Ext.stable _) hCD (yieldsU_val rfl (fun u hu => by go_simp)) ?_
  simp only [Act.put, List.setIfInBounds_toArray, List.set_cons_succ, List.set_cons_zero]
  refine anyU_takeP (i := 9) (j := 10) (v := .bool true) 36 [] rfl rfl (by kernel_rfl) (by kernel_rfl) (by kernel_rfl) (fun _ _ _ h => h) (by kernel_rfl) (Ext.stable _) hCD (yieldsU_val rfl (fun u hu => by go_simp)) ?_
  refine anyU_tail 10 [] rfl rfl (by decide) (by kernel_rfl) ?_
  intro u9 hu9
  simp only [Act.put, List.filterMap_cons, List.filterMap_nil, List.getElem?_cons_succ, List.getElem?_cons_zero]
  have B9 := Lib.hid (bel_trans BW.out hu9)
  clear hu9
  go_wp2_with fail
  go_ret
  exact ⟨rfl, B9.out⟩
theorem rc_two {l k a b E : Int} {zs : List Int} (h : IsRC l k a b zs E) : (E = 160) ∨ (E = 0 ∧ partB l k a b = true ∧ IsTag l k a b zs) := by
  rcases h with ⟨_, rfl⟩ | ⟨hp, ds, hd, ⟨rfl, rfl⟩ | ⟨_, rfl⟩⟩
  · exact .inl rfl
  · exact .inr ⟨rfl, hp, hd⟩
  · exact .inl rfl
theorem bound_walk (l k a b : Int) (zs : List Int) (line key ta tb : Int) (w : World) (hz : Hid (zs.length = 32)) (hk : Hid (KeysAt w)) :
    Calls Tryz.prog 6 #[.agg (rtv l k a b zs).toArray, .int .i64 line, .int .i64 key, .agg #[.int .i64 ta, .int .i64 tb]] w fun q w' => q = .returned (.bool true) ∧ Below w.heap.size w w' := by
  obtain ⟨E, he⟩ := isRC l k a b zs
  rcases rc_two he with rfl | ⟨rfl, hp, hd⟩
  · exact bound_no l k a b zs line key ta tb w hz hk (Lib.hid he)
  have EQ0 := eqRt_any line key ta tb zs l k a b zs hz.out hz.out
  cases hv : ((line == l) && ((key == k) && ((ta == a && tb == b) && decide (zs = zs)))) with
  | true =>
    rw [hv] at EQ0
    simp only [Bool.and_eq_true, beq_iff_eq] at hv
    obtain ⟨rfl, rfl, ⟨rfl, rfl⟩, _⟩ := hv
    exact bound_same _ _ _ _ zs _ _ _ _ w hz hk (Lib.hid he) (Lib.hid he) EQ0
  | false =>
    rw [hv] at EQ0
    obtain ⟨F, hf⟩ := isRC line key ta tb zs
    rcases rc_two hf with rfl | ⟨rfl, hp2, hd2⟩
    · exact bound_bad l k a b zs line key ta tb w hz hk (Lib.hid he) (Lib.hid hf) EQ0
    · exact bound_two l k a b zs line key ta tb w hz hk (Lib.hid he) (Lib.hid hf) EQ0 (Lib.hid (part_ok hp2)) (Lib.hid (part_ok hp)) (Lib.hid hd2) (Lib.hid hd)

namespace onetimeBound
theorem readable : ∀ t ∈ Tryz.f6.params.toList, Tryz.prog.readableRec t = true ∧ t < Tryz.prog.types.size := by
  rw [Tryz.params6]
  intro t ht
  simp only [List.mem_cons, List.not_mem_nil, or_false] at ht
  rcases ht with rfl | rfl | rfl | rfl
  all_goals exact ⟨by kernel_rfl, by decide +kernel⟩

set_option maxRecDepth 100000 in
theorem lifted (os : Os) (started : os.Started) (H : Type) (enc : TypeId × Value → H) :
    ReturnsInHanded {} Tryz.checked os 6 .any (fun w args => (Rows.onetimeBoundSpec.pre enc Tryz.prog Tryz.f6 [] false w args ∧ laidMetH Tryz.prog laidK w) ∧ sizedMet enc Tryz.prog Tryz.f6 (OpenSpec.ofChange Rows.onetimeBoundSpec) false w args)
      (Rows.onetimeBoundSpec.post enc Tryz.prog Tryz.f6 false true false false) := by
  refine returnsInHanded_of_change_and (C := Tryz.checked) (X := fun w _ => laidMetH Tryz.prog laidK w) (fun _ _ _ hh h => h.of_heap hh) own_knob started (by kernel_rfl) Tryz.func6
    (ChangeSpec.witness_shaped (enc := enc) (C := Tryz.checked) (os := os) (X := fun w _ => laidMetH Tryz.prog laidK w) false (World.doorLaid Tryz.prog 400 os) #[.agg (rtv 0 0 0 0 (List.replicate 32 0)).toArray, .int .i64 0, .int .i64 0, .agg #[.int .i64 0, .int .i64 0]] 8 rfl (World.shaped_of_RefB (by kernel_rfl) (by kernel_rfl)) (by kernel_rfl) (by kernel_rfl) (by kernel_rfl) (door_met os _)) ?_
  intro W base args ds gs before hval0 hW _ _ hL _
  have hval : ∀ (j : Nat) t v, Tryz.f6.params[j]? = some t → args[j]? = some v → Value.okWide Tryz.prog W .any base t v := hval0
  have hW' := hW
  obtain ⟨p, q, hA0, hV, rfl, hfz, hnd⟩ := hW
  have hA : DataW.TrodAll enc Tryz.prog W 0 (fun _ => true) true Tryz.f6.params.toList args.toList ds p := hA0
  rw [Tryz.params6] at hA hval
  obtain ⟨v0, vs0, d0, ds0, p0, q0, hargs, rfl, rfl, h0, r0⟩ := trodAll_cons hA
  obtain ⟨v1, vs1, d1, ds1, p1, q1, rfl, rfl, rfl, h1, r1⟩ := trodAll_cons r0
  obtain ⟨v2, vs2, d2, ds2, p2, q2, rfl, rfl, rfl, h2, r2⟩ := trodAll_cons r1
  obtain ⟨v3, vs3, d3, ds3, p3, q3, rfl, rfl, rfl, h3, r3⟩ := trodAll_cons r2
  obtain ⟨rfl, rfl, rfl⟩ := trodAll_nil r3
  obtain rfl : args = #[v0, v1, v2, v3] := by cases args; simp_all
  obtain ⟨rfl, rfl⟩ := trodVars_none hV
  obtain ⟨l0, k0, a0, b0, z0, rfl, w0, x0⟩ := open_ret (hval 0 27 v0 rfl rfl) h0
  obtain ⟨a1, rfl, rfl, rfl, w1⟩ := open_int Tryz.underlying3 (hval 1 3 v1 rfl rfl) h1
  obtain ⟨a2, rfl, rfl, rfl, w2⟩ := open_int Tryz.underlying3 (hval 2 3 v2 rfl rfl) h2
  obtain ⟨a3, b3, rfl⟩ := open_cip (hval 3 23 v3 rfl rfl) h3
  have hK := of_laid hL
  clear hA0 hval0
  refine (bound_walk l0 k0 a0 b0 z0 a1 a2 a3 b3 W (Lib.hid w0) (Lib.hid hK)).mono fun e W' ⟨he, hb⟩ => ?_
  subst he
  exact ⟨_, rfl, law_post laid_out readable rfl rfl Tryz.underlying4 hW' rfl rfl rfl hb⟩

theorem over : Rows.onetimeBoundRow.holds Tryz.pinned (OpenSpec.ofChange Rows.onetimeBoundSpec) :=
  OpenClaim.holds_of_wide 6 Tryz.f6 rfl rfl rfl rfl rfl rfl rfl ⟨rfl, rfl, rfl, rfl, rfl⟩ rfl rfl rfl rfl rfl (by kernel_rfl) Tryz.func6 (by kernel_rfl)
    (of_decide_eq_true (by kernel_rfl)) (by unfold Func.isWrapper; first | (rw [if_pos (by decide +kernel)]; kernel_rfl) | (rw [if_neg (by decide +kernel)]; exact ⟨rfl, rfl⟩))
    (fun os started H enc _ => lifted os started H enc)

/-- the statement: the tied card -/
theorem proved : Rows.OnetimeBoundCardSaid :=
  Claim7.holds_tied_plain_at .later [] [.data] true (true, "2945dd45cb54298148d20fc3ddd31a466de9b69a6089ff3bdcb76d6b52769d97") false
    over (fun _ h => by cases h) (by kernel_rfl) (fun _ h => by cases h) onetimeBound_row_tie rfl ⟨rfl, rfl⟩ (by kernel_rfl) rfl
    (fun f fn hf hfn => by
      obtain rfl : f = 6 := Option.some.inj ((show Tryz.prog.funcNamed "franking/frankinglaw16.OnetimeBound" = some 6 by kernel_rfl).symm.trans hf) |>.symm
      obtain rfl : fn = Tryz.f6 := (Option.some.inj (Tryz.func6.symm.trans hfn)).symm
      exact ⟨by kernel_rfl, fun j t ht => by
        rw [Tryz.params6] at ht
        have hm : t ∈ [27, 3, 3, 23] := by simpa using Array.mem_of_getElem? ht
        have hall : ([27, 3, 3, 23].all fun u => !Tryz.prog.wantsStandIn u) = true := by kernel_rfl
        exact (show Tryz.prog.wantsStandIn t = false by simpa using List.all_eq_true.1 hall t hm)⟩)
    (by kernel_rfl)
end onetimeBound
end Go.Proofs.YtcedmiojmepioaaGreatDoor
