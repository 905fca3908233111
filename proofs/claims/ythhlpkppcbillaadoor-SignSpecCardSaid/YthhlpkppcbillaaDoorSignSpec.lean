/- For all secrets, keys, texts and signatures, valid or not, Sign and Verify match the specification. No condition. -/
import Derived.Test.YthhlpkppcbillaaDoorRefS
import Derived.Test.YthhlpkppcbillaaDoorSigCard
namespace Go.Proofs.YthhlpkppcbillaaDoor
open Go.ChangeShapes Go.WideShapes Go.ChangeAt Go.RowKit Go.WideElems Go.Shelf
set_option linter.unusedVariables false
set_option linter.unusedSimpArgs false

theorem txs_of {w : World} {p : Option Addr} {m c : Nat} {bs : List Int} (hz : SrcW w p m c bs) (hr : ∀ z ∈ bs, 0 ≤ z ∧ z ≤ 255) (hm : m ≤ 600) : txOk bs := ⟨by have := hz.len; omega, hr⟩
set_option maxRecDepth 100000 in
set_option maxHeartbeats 4000000 in
theorem signSpec_a (x key : Int) (p : Option Addr) (m c : Nat) (bs : List Int) (e s : Int) (w : World) (hz : Hid (SrcW w p m c bs)) (hk : Hid (KeysAt w)) (hm : ¬ m ≤ 600) : Calls Tryd.prog 3 #[.int .i64 x, .int .i64 key, .slice p m c, .agg #[.int .i64 e, .int .i64 s]] w fun q w' => q = .returned (.bool true) ∧ Below w.heap.size w w' := by
  have B0 := Lib.hid (bel_alloc1 w (.cells #[.int .i64 e, .int .i64 s] 24))
  have X0 := Lib.hid (Blk.new w #[.int .i64 e, .int .i64 s] 24)
  go_enter Tryd.func3, Tryd.ntmps3
  go_wp2_with (go_at_call 11; refine (sane_any _ (Lib.hid (hk.out.below B0.out))).mono ?_; rintro q w1 ⟨rfl, hb⟩; have B1 := Lib.hid (bel_trans B0.out hb); have X1 := Lib.hid (X0.out.below hb X0.out.lt); clear hb)
  go_ret
  exact ⟨rfl, B1.out⟩
set_option maxRecDepth 100000 in
set_option maxHeartbeats 8000000 in
theorem signSpec_b (x key : Int) (p : Option Addr) (m c : Nat) (bs : List Int) (e s : Int) (w : World) (hz : Hid (SrcW w p m c bs)) (hk : Hid (KeysAt w)) (hm : m ≤ 600) (HT : Hid (txOk bs)) (v : Bool) (HV : Hid (IsVer key bs e s v)) (hx : x < 1 ∨ 1073741789 ≤ x) : Calls Tryd.prog 3 #[.int .i64 x, .int .i64 key, .slice p m c, .agg #[.int .i64 e, .int .i64 s]] w fun q w' => q = .returned (.bool true) ∧ Below w.heap.size w w' := by
  have B0 := Lib.hid (bel_alloc1 w (.cells #[.int .i64 e, .int .i64 s] 24))
  have X0 := Lib.hid (Blk.new w #[.int .i64 e, .int .i64 s] 24)
  go_enter Tryd.func3, Tryd.ntmps3
  go_upto_region 6 with (first
    | (go_at_call 11; refine (sane_any _ (Lib.hid (hk.out.below B0.out))).mono ?_; rintro q w1 ⟨rfl, hb⟩; have B1 := Lib.hid (bel_trans B0.out hb); have X1 := Lib.hid (X0.out.below hb X0.out.lt); clear hb)
    | (go_at_call 12; refine (sign_no x p m c w1 hx).mono ?_; rintro q w2 ⟨rfl, hb⟩; have B2 := Lib.hid (bel_trans B1.out hb); have X2 := Lib.hid (X1.out.below hb X1.out.lt); clear hb))
  have hb := bel_alloc1 w2 (.cells #[.int .i64 0, .int .i64 0] 24)
  have B3 := Lib.hid (bel_trans B2.out hb)
  have Y3 := Lib.hid (Blk.new w2 #[.int .i64 0, .int .i64 0] 24)
  have X3 := Lib.hid (X2.out.below hb X2.out.lt)
  clear hb B1 X1 X2 B2
  generalize World.alloc w2 _ = W3 at B3 Y3 X3 ⊢
  generalize w2.heap.size = by_ at Y3 ⊢
  go_wp2_with (go_at_call 13; refine (rsign_no x p m c W3 hx).mono ?_; rintro q w4 ⟨rfl, hb⟩; have B4 := Lib.hid (bel_trans B3.out hb); have X4 := Lib.hid (X3.out.below hb X3.out.lt); have Y4 := Lib.hid (Y3.out.below hb Y3.out.lt); clear hb)
  refine wp_region_any (by kernel_rfl) ?_
  change wpAny _ _ _ _ _ _ _ (World.drew _)
  generalize hWD : World.drew _ = W
  have hb := (bel_alloc1 w4 (.cells #[.int .i64 0, .int .i64 0] 24)).drew
  have EW := Lib.hid (show Below w.heap.size w W by rw [← hWD]; exact bel_trans B4.out hb)
  have YW := Lib.hid (show Blk W by_ #[.int .i64 0, .int .i64 0] 24 by rw [← hWD]; exact Y4.out.below hb Y4.out.lt)
  have ZW := Lib.hid (show Blk W w4.heap.size #[.int .i64 0, .int .i64 0] 24 by rw [← hWD]; exact Blk.new w4 _ _)
  have XW := Lib.hid (show Blk W w.heap.size #[.int .i64 e, .int .i64 s] 24 by rw [← hWD]; exact X4.out.below hb X4.out.lt)
  clear hb hWD B4 Y4 X4 B3 Y3 X3
  generalize w4.heap.size = bz at ZW ⊢
  have hCD : ∀ u, Ext W u → Ext W u := fun u hu => hu
  have heq := Lib.hid (fun w => eqSig 0 0 0 0 w)
  refine region_U (D := Ext W) (Ext W) [19] (Ext.refl W) ?_
  refine anyU_takeD (i := 0) (v := .agg #[.int .i64 0, .int .i64 0]) 30 rfl rfl (by kernel_rfl) (by kernel_rfl) (by kernel_rfl) (fun _ _ _ h => h) (by kernel_rfl) (Ext.stable _) hCD (yieldsU_val rfl (fun u hu => by have VV := YW.out.below hu YW.out.lt; have d0 := VV.cell 0; have d1 := VV.cell 1; go_simp)) ?_
  refine anyU_takeD (i := 1) (v := .agg #[.int .i64 0, .int .i64 0]) 31 rfl rfl (by kernel_rfl) (by kernel_rfl) (by kernel_rfl) (fun _ _ _ h => h) (by kernel_rfl) (Ext.stable _) hCD (yieldsU_val rfl (fun u hu => by have VV := ZW.out.below hu ZW.out.lt; have d0 := VV.cell 0; have d1 := VV.cell 1; go_simp)) ?_
  refine anyU_takeD (i := 2) (v := .bool true) 32 rfl rfl (by kernel_rfl) (by kernel_rfl) (by kernel_rfl) (fun _ _ _ h => h) (by kernel_rfl) (Ext.stable _) hCD (yieldsU_val rfl (fun u hu => by have hq := heq.out u; simp only [BEq.rfl, Bool.and_self] at hq; go_simp)) ?_
  simp only [Act.put, List.setIfInBounds_toArray, List.set_cons_succ, List.set_cons_zero]
  refine anyU_takeD (i := 3) (v := .bool true) 33 rfl rfl (by kernel_rfl) (by kernel_rfl) (by kernel_rfl) (fun _ _ _ h => h) (by kernel_rfl) (Ext.stable _) hCD (yieldsU_val rfl (fun u hu => by rfl)) ?_
  refine anyU_takeD (i := 4) (v := .int .i64 110) 34 rfl rfl (by kernel_rfl) (by kernel_rfl) (by kernel_rfl) (fun _ _ _ h => h) (by kernel_rfl) (Ext.stable _) hCD (yieldsU_val rfl (fun u hu => by rfl)) ?_
  refine anyU_takeD (i := 5) (v := .int .i64 110) 35 rfl rfl (by kernel_rfl) (by kernel_rfl) (by kernel_rfl) (fun _ _ _ h => h) (by kernel_rfl) (Ext.stable _) hCD (yieldsU_val rfl (fun u hu => by rfl)) ?_
  refine anyU_takeD (i := 6) (v := .bool true) 36 rfl rfl (by kernel_rfl) (by kernel_rfl) (by kernel_rfl) (fun _ _ _ h => h) (by kernel_rfl) (Ext.stable _) hCD (yieldsU_val rfl (fun u hu => by go_simp)) ?_
  simp only [Act.put, List.setIfInBounds_toArray, List.set_cons_succ, List.set_cons_zero]
  refine anyU_takeD (i := 7) (v := .bool true) 37 rfl rfl (by kernel_rfl) (by kernel_rfl) (by kernel_rfl) (fun _ _ _ h => h) (by kernel_rfl) (Ext.stable _) hCD (yieldsU_val rfl (fun u hu => by go_simp)) ?_
  refine anyU_takeD (i := 8) (v := .bool true) 38 rfl rfl (by kernel_rfl) (by kernel_rfl) (by kernel_rfl) (fun _ _ _ h => h) (by kernel_rfl) (Ext.stable _) hCD (yieldsU_val rfl (fun u hu => by rfl)) ?_
  refine anyU_takeD (i := 9) (v := .int .i64 key) 39 rfl rfl (by kernel_rfl) (by kernel_rfl) (by kernel_rfl) (fun _ _ _ h => h) (by kernel_rfl) (Ext.stable _) hCD (yieldsU_val rfl (fun u hu => by rfl)) ?_
  refine anyU_takeD (i := 10) (v := .slice p m c) 40 rfl rfl (by kernel_rfl) (by kernel_rfl) (by kernel_rfl) (fun _ _ _ h => h) (by kernel_rfl) (Ext.stable _) hCD (yieldsU_val rfl (fun u hu => by rfl)) ?_
  simp only [Act.put, List.setIfInBounds_toArray, List.set_cons_succ, List.set_cons_zero]
  refine anyU_takeD (i := 11) (v := .agg #[.int .i64 e, .int .i64 s]) 41 rfl rfl (by kernel_rfl) (by kernel_rfl) (by kernel_rfl) (fun _ _ _ h => h) (by kernel_rfl) (Ext.stable _) hCD (yieldsU_val rfl (fun u hu => by have VV := XW.out.below hu XW.out.lt; have d0 := VV.cell 0; have d1 := VV.cell 1; go_simp)) ?_
  refine anyU_takeD (i := 12) (v := .bool v) 42 rfl rfl (by kernel_rfl) (by kernel_rfl) (by kernel_rfl) (fun _ _ _ h => h) (by kernel_rfl) (Ext.stable _) hCD (yieldsU_call rfl 14 _ _ rfl #[.int .i64 key, .slice p m c, .agg #[.int .i64 e, .int .i64 s]] (by simp [Act.eval, Act.put]) (fun u => by go_simp) (fun u hu => verify_is key e s p m c bs u HT (Lib.hid ((hz.out.below EW.out).below hu)) (Lib.hid ((hk.out.below EW.out).below hu)) v HV)) ?_
  simp only [Act.put, List.setIfInBounds_toArray, List.set_cons_succ, List.set_cons_zero]
  refine anyU_takeD (i := 13) (v := .int .i64 key) 43 rfl rfl (by kernel_rfl) (by kernel_rfl) (by kernel_rfl) (fun _ _ _ h => h) (by kernel_rfl) (Ext.stable _) hCD (yieldsU_val rfl (fun u hu => by rfl)) ?_
  refine anyU_takeD (i := 14) (v := .slice p m c) 44 rfl rfl (by kernel_rfl) (by kernel_rfl) (by kernel_rfl) (fun _ _ _ h => h) (by kernel_rfl) (Ext.stable _) hCD (yieldsU_val rfl (fun u hu => by rfl)) ?_
  refine anyU_takeD (i := 15) (v := .agg #[.int .i64 e, .int .i64 s]) 45 rfl rfl (by kernel_rfl) (by kernel_rfl) (by kernel_rfl) (fun _ _ _ h => h) (by kernel_rfl) (Ext.stable _) hCD (yieldsU_val rfl (fun u hu => by have VV := XW.out.below hu XW.out.lt; have d0 := VV.cell 0; have d1 := VV.cell 1; go_simp)) ?_
  refine anyU_takeD (i := 16) (v := .bool v) 46 rfl rfl (by kernel_rfl) (by kernel_rfl) (by kernel_rfl) (fun _ _ _ h => h) (by kernel_rfl) (Ext.stable _) hCD (yieldsU_call rfl 15 _ _ rfl #[.int .i64 key, .slice p m c, .agg #[.int .i64 e, .int .i64 s]] (by simp [Act.eval, Act.put]) (fun u => by go_simp) (fun u hu => rverify_is key e s p m c bs u HT (Lib.hid ((hz.out.below EW.out).below hu)) v HV)) ?_
  simp only [Act.put, List.setIfInBounds_toArray, List.set_cons_succ, List.set_cons_zero]
  refine anyU_takeD (i := 17) (v := .bool true) 47 rfl rfl (by kernel_rfl) (by kernel_rfl) (by kernel_rfl) (fun _ _ _ h => h) (by kernel_rfl) (Ext.stable _) hCD (yieldsU_val rfl (fun u hu => by go_simp)) ?_
  refine anyU_takeD (i := 18) (v := .bool true) 48 rfl rfl (by kernel_rfl) (by kernel_rfl) (by kernel_rfl) (fun _ _ _ h => h) (by kernel_rfl) (Ext.stable _) hCD (yieldsU_val rfl (fun u hu => by go_simp)) ?_
  simp only [Act.put, List.setIfInBounds_toArray, List.set_cons_succ, List.set_cons_zero]
  refine anyU_tail 19 [] rfl rfl (by decide) (by kernel_rfl) ?_
  intro u1 hu
  simp only [Act.put, List.filterMap_cons, List.filterMap_nil, List.getElem?_cons_succ, List.getElem?_cons_zero]
  have BU := Lib.hid (bel_trans EW.out hu)
  clear hu
  go_wp2_with fail
  go_ret
  exact ⟨rfl, BU.out⟩
set_option maxRecDepth 100000 in
set_option maxHeartbeats 8000000 in
theorem signSpec_c (x key : Int) (p : Option Addr) (m c : Nat) (bs : List Int) (e s : Int) (w : World) (hz : Hid (SrcW w p m c bs)) (hk : Hid (KeysAt w)) (hm : m ≤ 600) (HT : Hid (txOk bs)) (v : Bool) (HV : Hid (IsVer key bs e s v)) (x0 : 1 ≤ x) (x1 : x < 1073741789) (e3 s3 : Int) (HS : Hid (IsSig x bs e3 s3)) : Calls Tryd.prog 3 #[.int .i64 x, .int .i64 key, .slice p m c, .agg #[.int .i64 e, .int .i64 s]] w fun q w' => q = .returned (.bool true) ∧ Below w.heap.size w w' := by
  have B0 := Lib.hid (bel_alloc1 w (.cells #[.int .i64 e, .int .i64 s] 24))
  have X0 := Lib.hid (Blk.new w #[.int .i64 e, .int .i64 s] 24)
  go_enter Tryd.func3, Tryd.ntmps3
  go_upto_region 6 with (first
    | (go_at_call 11; refine (sane_any _ (Lib.hid (hk.out.below B0.out))).mono ?_; rintro q w1 ⟨rfl, hb⟩; have B1 := Lib.hid (bel_trans B0.out hb); have X1 := Lib.hid (X0.out.below hb X0.out.lt); clear hb)
    | (go_at_call 12; refine (sign_yes x p m c bs w1 x0 x1 HT (Lib.hid (hz.out.below B1.out)) (Lib.hid (hk.out.below B1.out)) e3 s3 HS).mono ?_; rintro q w2 ⟨rfl, hb⟩; have B2 := Lib.hid (bel_trans B1.out hb); have X2 := Lib.hid (X1.out.below hb X1.out.lt); clear hb))
  have hb := bel_alloc1 w2 (.cells #[.int .i64 e3, .int .i64 s3] 24)
  have B3 := Lib.hid (bel_trans B2.out hb)
  have Y3 := Lib.hid (Blk.new w2 #[.int .i64 e3, .int .i64 s3] 24)
  have X3 := Lib.hid (X2.out.below hb X2.out.lt)
  clear hb B1 X1 X2 B2
  generalize World.alloc w2 _ = W3 at B3 Y3 X3 ⊢
  generalize w2.heap.size = by_ at Y3 ⊢
  go_wp2_with (go_at_call 13; refine (rsign_yes x p m c bs W3 x0 x1 HT (Lib.hid (hz.out.below B3.out)) e3 s3 HS).mono ?_; rintro q w4 ⟨rfl, hb⟩; have B4 := Lib.hid (bel_trans B3.out hb); have X4 := Lib.hid (X3.out.below hb X3.out.lt); have Y4 := Lib.hid (Y3.out.below hb Y3.out.lt); clear hb)
  refine wp_region_any (by kernel_rfl) ?_
  change wpAny _ _ _ _ _ _ _ (World.drew _)
  generalize hWD : World.drew _ = W
  have hb := (bel_alloc1 w4 (.cells #[.int .i64 e3, .int .i64 s3] 24)).drew
  have EW := Lib.hid (show Below w.heap.size w W by rw [← hWD]; exact bel_trans B4.out hb)
  have YW := Lib.hid (show Blk W by_ #[.int .i64 e3, .int .i64 s3] 24 by rw [← hWD]; exact Y4.out.below hb Y4.out.lt)
  have ZW := Lib.hid (show Blk W w4.heap.size #[.int .i64 e3, .int .i64 s3] 24 by rw [← hWD]; exact Blk.new w4 _ _)
  have XW := Lib.hid (show Blk W w.heap.size #[.int .i64 e, .int .i64 s] 24 by rw [← hWD]; exact X4.out.below hb X4.out.lt)
  clear hb hWD B4 Y4 X4 B3 Y3 X3
  generalize w4.heap.size = bz at ZW ⊢
  have hCD : ∀ u, Ext W u → Ext W u := fun u hu => hu
  have heq := Lib.hid (fun w => eqSig e3 s3 e3 s3 w)
  refine region_U (D := Ext W) (Ext W) [19] (Ext.refl W) ?_
  refine anyU_takeD (i := 0) (v := .agg #[.int .i64 e3, .int .i64 s3]) 30 rfl rfl (by kernel_rfl) (by kernel_rfl) (by kernel_rfl) (fun _ _ _ h => h) (by kernel_rfl) (Ext.stable _) hCD (yieldsU_val rfl (fun u hu => by have VV := YW.out.below hu YW.out.lt; have d0 := VV.cell 0; have d1 := VV.cell 1; go_simp)) ?_
  refine anyU_takeD (i := 1) (v := .agg #[.int .i64 e3, .int .i64 s3]) 31 rfl rfl (by kernel_rfl) (by kernel_rfl) (by kernel_rfl) (fun _ _ _ h => h) (by kernel_rfl) (Ext.stable _) hCD (yieldsU_val rfl (fun u hu => by have VV := ZW.out.below hu ZW.out.lt; have d0 := VV.cell 0; have d1 := VV.cell 1; go_simp)) ?_
  refine anyU_takeD (i := 2) (v := .bool true) 32 rfl rfl (by kernel_rfl) (by kernel_rfl) (by kernel_rfl) (fun _ _ _ h => h) (by kernel_rfl) (Ext.stable _) hCD (yieldsU_val rfl (fun u hu => by have hq := heq.out u; simp only [BEq.rfl, Bool.and_self] at hq; go_simp)) ?_
  simp only [Act.put, List.setIfInBounds_toArray, List.set_cons_succ, List.set_cons_zero]
  refine anyU_takeD (i := 3) (v := .bool true) 33 rfl rfl (by kernel_rfl) (by kernel_rfl) (by kernel_rfl) (fun _ _ _ h => h) (by kernel_rfl) (Ext.stable _) hCD (yieldsU_val rfl (fun u hu => by rfl)) ?_
  refine anyU_takeD (i := 4) (v := .int .i64 0) 34 rfl rfl (by kernel_rfl) (by kernel_rfl) (by kernel_rfl) (fun _ _ _ h => h) (by kernel_rfl) (Ext.stable _) hCD (yieldsU_val rfl (fun u hu => by rfl)) ?_
  refine anyU_takeD (i := 5) (v := .int .i64 0) 35 rfl rfl (by kernel_rfl) (by kernel_rfl) (by kernel_rfl) (fun _ _ _ h => h) (by kernel_rfl) (Ext.stable _) hCD (yieldsU_val rfl (fun u hu => by rfl)) ?_
  refine anyU_takeD (i := 6) (v := .bool true) 36 rfl rfl (by kernel_rfl) (by kernel_rfl) (by kernel_rfl) (fun _ _ _ h => h) (by kernel_rfl) (Ext.stable _) hCD (yieldsU_val rfl (fun u hu => by go_simp)) ?_
  simp only [Act.put, List.setIfInBounds_toArray, List.set_cons_succ, List.set_cons_zero]
  refine anyU_takeD (i := 7) (v := .bool true) 37 rfl rfl (by kernel_rfl) (by kernel_rfl) (by kernel_rfl) (fun _ _ _ h => h) (by kernel_rfl) (Ext.stable _) hCD (yieldsU_val rfl (fun u hu => by go_simp)) ?_
  refine anyU_takeD (i := 8) (v := .bool true) 38 rfl rfl (by kernel_rfl) (by kernel_rfl) (by kernel_rfl) (fun _ _ _ h => h) (by kernel_rfl) (Ext.stable _) hCD (yieldsU_val rfl (fun u hu => by rfl)) ?_
  refine anyU_takeD (i := 9) (v := .int .i64 key) 39 rfl rfl (by kernel_rfl) (by kernel_rfl) (by kernel_rfl) (fun _ _ _ h => h) (by kernel_rfl) (Ext.stable _) hCD (yieldsU_val rfl (fun u hu => by rfl)) ?_
  refine anyU_takeD (i := 10) (v := .slice p m c) 40 rfl rfl (by kernel_rfl) (by kernel_rfl) (by kernel_rfl) (fun _ _ _ h => h) (by kernel_rfl) (Ext.stable _) hCD (yieldsU_val rfl (fun u hu => by rfl)) ?_
  simp only [Act.put, List.setIfInBounds_toArray, List.set_cons_succ, List.set_cons_zero]
  refine anyU_takeD (i := 11) (v := .agg #[.int .i64 e, .int .i64 s]) 41 rfl rfl (by kernel_rfl) (by kernel_rfl) (by kernel_rfl) (fun _ _ _ h => h) (by kernel_rfl) (Ext.stable _) hCD (yieldsU_val rfl (fun u hu => by have VV := XW.out.below hu XW.out.lt; have d0 := VV.cell 0; have d1 := VV.cell 1; go_simp)) ?_
  refine anyU_takeD (i := 12) (v := .bool v) 42 rfl rfl (by kernel_rfl) (by kernel_rfl) (by kernel_rfl) (fun _ _ _ h => h) (by kernel_rfl) (Ext.stable _) hCD (yieldsU_call rfl 14 _ _ rfl #[.int .i64 key, .slice p m c, .agg #[.int .i64 e, .int .i64 s]] (by simp [Act.eval, Act.put]) (fun u => by go_simp) (fun u hu => verify_is key e s p m c bs u HT (Lib.hid ((hz.out.below EW.out).below hu)) (Lib.hid ((hk.out.below EW.out).below hu)) v HV)) ?_
  simp only [Act.put, List.setIfInBounds_toArray, List.set_cons_succ, List.set_cons_zero]
  refine anyU_takeD (i := 13) (v := .int .i64 key) 43 rfl rfl (by kernel_rfl) (by kernel_rfl) (by kernel_rfl) (fun _ _ _ h => h) (by kernel_rfl) (Ext.stable _) hCD (yieldsU_val rfl (fun u hu => by rfl)) ?_
  refine anyU_takeD (i := 14) (v := .slice p m c) 44 rfl rfl (by kernel_rfl) (by kernel_rfl) (by kernel_rfl) (fun _ _ _ h => h) (by kernel_rfl) (Ext.stable _) hCD (yieldsU_val rfl (fun u hu => by rfl)) ?_
  refine anyU_takeD (i := 15) (v := .agg #[.int .i64 e, .int .i64 s]) 45 rfl rfl (by kernel_rfl) (by kernel_rfl) (by kernel_rfl) (fun _ _ _ h => h) (by kernel_rfl) (Ext.stable _) hCD (yieldsU_val rfl (fun u hu => by have VV := XW.out.below hu XW.out.lt; have d0 := VV.cell 0; have d1 := VV.cell 1; go_simp)) ?_
  refine anyU_takeD (i := 16) (v := .bool v) 46 rfl rfl (by kernel_rfl) (by kernel_rfl) (by kernel_rfl) (fun _ _ _ h => h) (by kernel_rfl) (Ext.stable _) hCD (yieldsU_call rfl 15 _ _ rfl #[.int .i64 key, .slice p m c, .agg #[.int .i64 e, .int .i64 s]] (by simp [Act.eval, Act.put]) (fun u => by go_simp) (fun u hu => rverify_is key e s p m c bs u HT (Lib.hid ((hz.out.below EW.out).below hu)) v HV)) ?_
  simp only [Act.put, List.setIfInBounds_toArray, List.set_cons_succ, List.set_cons_zero]
  refine anyU_takeD (i := 17) (v := .bool true) 47 rfl rfl (by kernel_rfl) (by kernel_rfl) (by kernel_rfl) (fun _ _ _ h => h) (by kernel_rfl) (Ext.stable _) hCD (yieldsU_val rfl (fun u hu => by go_simp)) ?_
  refine anyU_takeD (i := 18) (v := .bool true) 48 rfl rfl (by kernel_rfl) (by kernel_rfl) (by kernel_rfl) (fun _ _ _ h => h) (by kernel_rfl) (Ext.stable _) hCD (yieldsU_val rfl (fun u hu => by go_simp)) ?_
  simp only [Act.put, List.setIfInBounds_toArray, List.set_cons_succ, List.set_cons_zero]
  refine anyU_tail 19 [] rfl rfl (by decide) (by kernel_rfl) ?_
  intro u1 hu
  simp only [Act.put, List.filterMap_cons, List.filterMap_nil, List.getElem?_cons_succ, List.getElem?_cons_zero]
  have BU := Lib.hid (bel_trans EW.out hu)
  clear hu
  go_wp2_with fail
  go_ret
  exact ⟨rfl, BU.out⟩
theorem signSpec_walk (x key : Int) (p : Option Addr) (m c : Nat) (bs : List Int) (e s : Int) (w : World) (hz : Hid (SrcW w p m c bs)) (hk : Hid (KeysAt w)) (hr : ∀ z ∈ bs, 0 ≤ z ∧ z ≤ 255) : Calls Tryd.prog 3 #[.int .i64 x, .int .i64 key, .slice p m c, .agg #[.int .i64 e, .int .i64 s]] w fun q w' => q = .returned (.bool true) ∧ Below w.heap.size w w' := by
  by_cases hm : m ≤ 600
  case neg => exact signSpec_a x key p m c bs e s w hz hk hm
  have HT := Lib.hid (txs_of hz.out hr hm)
  obtain ⟨v, hv⟩ := isVer key bs e s
  by_cases hx : x < 1 ∨ 1073741789 ≤ x
  · exact signSpec_b x key p m c bs e s w hz hk hm HT v (Lib.hid hv) hx
  · obtain ⟨e3, s3, hs⟩ := isSig x bs
    exact signSpec_c x key p m c bs e s w hz hk hm HT v (Lib.hid hv) (by omega) (by omega) e3 s3 (Lib.hid hs)

namespace signSpec
theorem readable : ∀ t ∈ Tryd.f3.params.toList, Tryd.prog.readableRec t = true ∧ t < Tryd.prog.types.size := by
  rw [Tryd.params3]
  intro t ht
  simp only [List.mem_cons, List.not_mem_nil, or_false] at ht
  rcases ht with rfl | rfl | rfl | rfl
  all_goals exact ⟨by kernel_rfl, by decide +kernel⟩

set_option maxRecDepth 100000 in
theorem lifted (os : Os) (started : os.Started) (H : Type) (enc : TypeId × Value → H) :
    ReturnsInHanded {} Tryd.checked os 3 .any (fun w args => (Rows.signSpecSpec.pre enc Tryd.prog Tryd.f3 [] false w args ∧ laidMetH Tryd.prog laidK w) ∧ sizedMet enc Tryd.prog Tryd.f3 (OpenSpec.ofChange Rows.signSpecSpec) false w args)
      (Rows.signSpecSpec.post enc Tryd.prog Tryd.f3 false true false false) := by
  refine returnsInHanded_of_change_and (C := Tryd.checked) (X := fun w _ => laidMetH Tryd.prog laidK w) (fun _ _ _ hh h => h.of_heap hh) own_knob started (by kernel_rfl) Tryd.func3
    (ChangeSpec.witness_shaped (enc := enc) (C := Tryd.checked) (os := os) (X := fun w _ => laidMetH Tryd.prog laidK w) false (World.doorLaid Tryd.prog 400 os) #[.int .i64 0, .int .i64 0, .slice none 0 0, .agg #[.int .i64 0, .int .i64 0]] 8 rfl (World.shaped_of_RefB (by kernel_rfl) (by kernel_rfl)) (by kernel_rfl) (by kernel_rfl) (by kernel_rfl) (door_met os _)) ?_
  intro W base args ds gs before hval0 hW _ _ hL _
  have hval : ∀ (j : Nat) t v, Tryd.f3.params[j]? = some t → args[j]? = some v → Value.okWide Tryd.prog W .any base t v := hval0
  have hW' := hW
  obtain ⟨p, q, hA0, hV, rfl, hfz, hnd⟩ := hW
  have hA : DataW.TrodAll enc Tryd.prog W 0 (fun _ => true) true Tryd.f3.params.toList args.toList ds p := hA0
  rw [Tryd.params3] at hA hval
  obtain ⟨v0, vs0, d0, ds0, p0, q0, hargs, rfl, rfl, h0, r0⟩ := trodAll_cons hA
  obtain ⟨v1, vs1, d1, ds1, p1, q1, rfl, rfl, rfl, h1, r1⟩ := trodAll_cons r0
  obtain ⟨v2, vs2, d2, ds2, p2, q2, rfl, rfl, rfl, h2, r2⟩ := trodAll_cons r1
  obtain ⟨v3, vs3, d3, ds3, p3, q3, rfl, rfl, rfl, h3, r3⟩ := trodAll_cons r2
  obtain ⟨rfl, rfl, rfl⟩ := trodAll_nil r3
  obtain rfl : args = #[v0, v1, v2, v3] := by cases args; simp_all
  obtain ⟨rfl, rfl⟩ := trodVars_none hV
  obtain ⟨a0, rfl, rfl, rfl, w0⟩ := open_int Tryd.underlying3 (hval 0 3 v0 rfl rfl) h0
  obtain ⟨a1, rfl, rfl, rfl, w1⟩ := open_int Tryd.underlying3 (hval 1 3 v1 rfl rfl) h1
  obtain ⟨s2, n2, c2, z2, rfl, w2, x2, y2, u2⟩ := open_src Tryd.underlying22 Tryd.underlying5 (by kernel_rfl) (hval 2 22 v2 rfl rfl) h2
  obtain ⟨e3, t3, rfl, w3, x3⟩ := open_sig (hval 3 24 v3 rfl rfl) h3
  have hK := of_laid hL
  clear hA0 hval0
  refine (signSpec_walk a0 a1 s2 n2 c2 z2 e3 t3 W (Lib.hid w2) (Lib.hid hK) x2).mono fun e W' ⟨he, hb⟩ => ?_
  subst he
  exact ⟨_, rfl, law_post laid_out readable rfl rfl Tryd.underlying4 hW' rfl rfl rfl hb⟩

theorem over : Rows.signSpecRow.holds Tryd.pinned (OpenSpec.ofChange Rows.signSpecSpec) :=
  OpenClaim.holds_of_wide 3 Tryd.f3 rfl rfl rfl rfl rfl rfl rfl ⟨rfl, rfl, rfl, rfl, rfl⟩ rfl rfl rfl rfl rfl (by kernel_rfl) Tryd.func3 (by kernel_rfl)
    (of_decide_eq_true (by kernel_rfl)) (by unfold Func.isWrapper; first | (rw [if_pos (by decide +kernel)]; kernel_rfl) | (rw [if_neg (by decide +kernel)]; exact ⟨rfl, rfl⟩))
    (fun os started H enc _ => lifted os started H enc)

/-- the statement: the tied card -/
theorem proved : Rows.SignSpecCardSaid :=
  Claim7.holds_tied_plain_at .later [] [.data] true (true, "bc6094e853e3747432043714df9a4ae338abb82d89132539a305f2be281f9fc0") true
    over (fun _ h => by cases h) (by kernel_rfl) (fun _ h => by cases h) signSpec_row_tie rfl ⟨rfl, rfl⟩ (by kernel_rfl) rfl
    (fun f fn hf hfn => by
      obtain rfl : f = 3 := Option.some.inj ((show Tryd.prog.funcNamed "franking/frankinglaw11.SignSpec" = some 3 by kernel_rfl).symm.trans hf) |>.symm
      obtain rfl : fn = Tryd.f3 := (Option.some.inj (Tryd.func3.symm.trans hfn)).symm
      exact ⟨by kernel_rfl, fun j t ht => by
        rw [Tryd.params3] at ht
        have hm : t ∈ [3, 3, 22, 24] := by simpa using Array.mem_of_getElem? ht
        have hall : ([3, 3, 22, 24].all fun u => !Tryd.prog.wantsStandIn u) = true := by kernel_rfl
        exact (show Tryd.prog.wantsStandIn t = false by simpa using List.all_eq_true.1 hall t hm)⟩)
    (by kernel_rfl)
end signSpec
end Go.Proofs.YthhlpkppcbillaaDoor
