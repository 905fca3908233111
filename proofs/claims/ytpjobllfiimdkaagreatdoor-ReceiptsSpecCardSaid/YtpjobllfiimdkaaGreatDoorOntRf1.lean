/- The reference's Check. -/
import Derived.Test.YtpjobllfiimdkaaGreatDoorOntRf0
import Derived.Test.YtpjobllfiimdkaaGreatDoorOntChk
import Derived.Test.YtpjobllfiimdkaaGreatDoorGroupRef
namespace Go.Proofs.YtpjobllfiimdkaaGreatDoor
open Go.RowKit
set_option linter.unusedVariables false
set_option linter.unusedSimpArgs false

set_option maxRecDepth 100000 in
set_option maxHeartbeats 4000000 in
theorem rcheck_neg (l k a b : Int) (zs : List Int) (w : World) (hz : Hid (zs.length = 32)) (ln : Hid (l < 0)) :
    Calls Tryz.prog 57 #[.agg (rtv l k a b zs).toArray] w fun e w' => e = .returned (.int .i64 160) ∧ Below w.heap.size w w' := by
  have t1 : l < 0 := by have := ln.out; omega
  have X := Lib.hid (RBlk.box w l k a b hz.out)
  have BX := Lib.hid (bel_alloc1 w (.cells (rtv l k a b zs).toArray 29))
  go_enter Tryz.func57, Tryz.ntmps57
  go_upto_region 1 with fail
  refine wp_region_any (by kernel_rfl) ?_
  change wpAny _ _ _ _ _ _ _ (World.drew _)
  generalize hWD : World.drew _ = W
  have X0 := Lib.hid (show RBlk W w.heap.size l k a b zs by rw [← hWD]; exact X.out)
  have B0 := Lib.hid (show Below w.heap.size w W by rw [← hWD]; exact BX.out.drew)
  clear hWD X BX
  have hCD : ∀ u, Ext W u → Ext W u := fun u hu => hu
  refine region_U (D := Ext W) (Ext W) [34] (Ext.refl W) ?_
  refine anyU_takeP (i := 0) (j := 34) (v := .pointer (some ⟨w.heap.size, 0, none⟩)) 3 [28, 27, 21, 20, 14, 13, 8, 3, 2, 1] rfl rfl (by kernel_rfl) (by kernel_rfl) (by kernel_rfl) (fun _ _ _ h => h) (by kernel_rfl) (Ext.stable _) hCD (yieldsU_val rfl (fun u hu => by go_simp)) ?_
  refine anyU_takeP (i := 1) (j := 34) (v := .int .i64 l) 4 [28, 27, 21, 20, 14, 13, 8, 3, 2] rfl rfl (by kernel_rfl) (by kernel_rfl) (by kernel_rfl) (fun _ _ _ h => h) (by kernel_rfl) (Ext.stable _) hCD (yieldsU_val rfl (fun u hu => by obtain ⟨c0, c1, c2, c3⟩ := (X0.out.bel hu).ints; go_simp)) ?_
  refine anyU_takeP (i := 2) (j := 34) (v := .bool true) 5 [28, 27, 21, 20, 14, 13, 8, 3] rfl rfl (by kernel_rfl) (by kernel_rfl) (by kernel_rfl) (fun _ _ _ h => h) (by kernel_rfl) (Ext.stable _) hCD (yieldsU_val rfl (fun u hu => by go_simp)) ?_
  refine anyU_takeP (i := 3) (j := 34) (v := .bool true) 6 [28, 27, 21, 20, 14, 13, 8] rfl rfl (by kernel_rfl) (by kernel_rfl) (by kernel_rfl) (fun _ _ _ h => h) (by kernel_rfl) (Ext.stable _) hCD (yieldsU_val rfl (fun u hu => by go_simp)) ?_
  simp only [Act.put, List.setIfInBounds_toArray, List.set_cons_succ, List.set_cons_zero]
  refine anyU_takeP (i := 4) (j := 34) (v := undef) 7 [28, 27, 21, 20, 14, 13, 8, 7, 6, 5] rfl rfl (by kernel_rfl) (by kernel_rfl) (by kernel_rfl) (fun _ _ _ h => h) (by kernel_rfl) (Ext.stable _) hCD (.inr ⟨by rfl, rfl⟩) ?_
  refine anyU_takeP (i := 5) (j := 34) (v := undef) 8 [28, 27, 21, 20, 14, 13, 8, 7, 6] rfl rfl (by kernel_rfl) (by kernel_rfl) (by kernel_rfl) (fun _ _ _ h => h) (by kernel_rfl) (Ext.stable _) hCD (.inr ⟨by rfl, rfl⟩) ?_
  refine anyU_takeP (i := 6) (j := 34) (v := undef) 9 [28, 27, 21, 20, 14, 13, 8, 7] rfl rfl (by kernel_rfl) (by kernel_rfl) (by kernel_rfl) (fun _ _ _ h => h) (by kernel_rfl) (Ext.stable _) hCD (.inr ⟨by rfl, rfl⟩) ?_
  refine anyU_takeP (i := 7) (j := 34) (v := .bool true) 10 [28, 27, 21, 20, 14, 13, 8] rfl rfl (by kernel_rfl) (by kernel_rfl) (by kernel_rfl) (fun _ _ _ h => h) (by kernel_rfl) (Ext.stable _) hCD (yieldsU_val rfl (fun u hu => by go_simp)) ?_
  refine anyU_takeP (i := 8) (j := 34) (v := .bool true) 11 [28, 27, 21, 20, 14, 13] rfl rfl (by kernel_rfl) (by kernel_rfl) (by kernel_rfl) (fun _ _ _ h => h) (by kernel_rfl) (Ext.stable _) hCD (yieldsU_val rfl (fun u hu => by go_simp)) ?_
  simp only [Act.put, List.setIfInBounds_toArray, List.set_cons_succ, List.set_cons_zero]
  refine anyU_takeP (i := 9) (j := 34) (v := undef) 12 [28, 27, 21, 20, 14, 11, 10] rfl rfl (by kernel_rfl) (by kernel_rfl) (by kernel_rfl) (fun _ _ _ h => h) (by kernel_rfl) (Ext.stable _) hCD (.inr ⟨by rfl, rfl⟩) ?_
  refine anyU_takeP (i := 10) (j := 34) (v := undef) 13 [28, 27, 21, 20, 14, 11] rfl rfl (by kernel_rfl) (by kernel_rfl) (by kernel_rfl) (fun _ _ _ h => h) (by kernel_rfl) (Ext.stable _) hCD (.inr ⟨by rfl, rfl⟩) ?_
  refine anyU_takeP (i := 11) (j := 34) (v := undef) 14 [28, 27, 21, 20, 14] rfl rfl (by kernel_rfl) (by kernel_rfl) (by kernel_rfl) (fun _ _ _ h => h) (by kernel_rfl) (Ext.stable _) hCD (.inr ⟨by rfl, rfl⟩) ?_
  refine anyU_takeP (i := 12) (j := 34) (v := undef) 15 [28, 27, 21, 20, 14, 13] rfl rfl (by kernel_rfl) (by kernel_rfl) (by kernel_rfl) (fun _ _ _ h => h) (by kernel_rfl) (Ext.stable _) hCD (.inr ⟨by rfl, rfl⟩) ?_
  simp only [Act.put, List.setIfInBounds_toArray, List.set_cons_succ, List.set_cons_zero]
  refine anyU_takeP (i := 13) (j := 34) (v := .bool true) 16 [28, 27, 21, 20, 14] rfl rfl (by kernel_rfl) (by kernel_rfl) (by kernel_rfl) (fun _ _ _ h => h) (by kernel_rfl) (Ext.stable _) hCD (yieldsU_val rfl (fun u hu => by go_simp)) ?_
  refine anyU_takeP (i := 14) (j := 34) (v := .bool true) 17 [28, 27, 21, 20] rfl rfl (by kernel_rfl) (by kernel_rfl) (by kernel_rfl) (fun _ _ _ h => h) (by kernel_rfl) (Ext.stable _) hCD (yieldsU_val rfl (fun u hu => by go_simp)) ?_
  refine anyU_takeP (i := 15) (j := 34) (v := undef) 18 [28, 27, 21, 18, 17, 16] rfl rfl (by kernel_rfl) (by kernel_rfl) (by kernel_rfl) (fun _ _ _ h => h) (by kernel_rfl) (Ext.stable _) hCD (.inr ⟨by rfl, rfl⟩) ?_
  refine anyU_takeP (i := 16) (j := 34) (v := undef) 19 [28, 27, 21, 18, 17] rfl rfl (by kernel_rfl) (by kernel_rfl) (by kernel_rfl) (fun _ _ _ h => h) (by kernel_rfl) (Ext.stable _) hCD (.inr ⟨by rfl, rfl⟩) ?_
  refine anyU_takeP (i := 17) (j := 34) (v := undef) 20 [28, 27, 21, 18] rfl rfl (by kernel_rfl) (by kernel_rfl) (by kernel_rfl) (fun _ _ _ h => h) (by kernel_rfl) (Ext.stable _) hCD (.inr ⟨by rfl, rfl⟩) ?_
  refine anyU_takeP (i := 18) (j := 34) (v := undef) 21 [28, 27, 21] rfl rfl (by kernel_rfl) (by kernel_rfl) (by kernel_rfl) (fun _ _ _ h => h) (by kernel_rfl) (Ext.stable _) hCD (.inr ⟨by rfl, rfl⟩) ?_
  refine anyU_takeP (i := 19) (j := 34) (v := undef) 22 [28, 27, 21, 20] rfl rfl (by kernel_rfl) (by kernel_rfl) (by kernel_rfl) (fun _ _ _ h => h) (by kernel_rfl) (Ext.stable _) hCD (.inr ⟨by rfl, rfl⟩) ?_
  simp only [Act.put, List.setIfInBounds_toArray, List.set_cons_succ, List.set_cons_zero]
  refine anyU_takeP (i := 20) (j := 34) (v := .bool true) 23 [28, 27, 21] rfl rfl (by kernel_rfl) (by kernel_rfl) (by kernel_rfl) (fun _ _ _ h => h) (by kernel_rfl) (Ext.stable _) hCD (yieldsU_val rfl (fun u hu => by go_simp)) ?_
  refine anyU_takeP (i := 21) (j := 34) (v := .bool true) 24 [28, 27] rfl rfl (by kernel_rfl) (by kernel_rfl) (by kernel_rfl) (fun _ _ _ h => h) (by kernel_rfl) (Ext.stable _) hCD (yieldsU_val rfl (fun u hu => by go_simp)) ?_
  refine anyU_takeP (i := 22) (j := 34) (v := undef) 25 [28, 25, 24, 23] rfl rfl (by kernel_rfl) (by kernel_rfl) (by kernel_rfl) (fun _ _ _ h => h) (by kernel_rfl) (Ext.stable _) hCD (.inr ⟨by rfl, rfl⟩) ?_
  refine anyU_takeP (i := 23) (j := 34) (v := undef) 26 [28, 25, 24] rfl rfl (by kernel_rfl) (by kernel_rfl) (by kernel_rfl) (fun _ _ _ h => h) (by kernel_rfl) (Ext.stable _) hCD (.inr ⟨by rfl, rfl⟩) ?_
  refine anyU_takeP (i := 24) (j := 34) (v := undef) 27 [28, 25] rfl rfl (by kernel_rfl) (by kernel_rfl) (by kernel_rfl) (fun _ _ _ h => h) (by kernel_rfl) (Ext.stable _) hCD (.inr ⟨by rfl, rfl⟩) ?_
  refine anyU_takeP (i := 25) (j := 34) (v := undef) 28 [28] rfl rfl (by kernel_rfl) (by kernel_rfl) (by kernel_rfl) (fun _ _ _ h => h) (by kernel_rfl) (Ext.stable _) hCD (.inr ⟨by rfl, rfl⟩) ?_
  refine anyU_takeP (i := 26) (j := 34) (v := undef) 29 [28, 27] rfl rfl (by kernel_rfl) (by kernel_rfl) (by kernel_rfl) (fun _ _ _ h => h) (by kernel_rfl) (Ext.stable _) hCD (.inr ⟨by rfl, rfl⟩) ?_
  simp only [Act.put, List.setIfInBounds_toArray, List.set_cons_succ, List.set_cons_zero]
  refine anyU_takeP (i := 27) (j := 34) (v := .bool true) 30 [28] rfl rfl (by kernel_rfl) (by kernel_rfl) (by kernel_rfl) (fun _ _ _ h => h) (by kernel_rfl) (Ext.stable _) hCD (yieldsU_val rfl (fun u hu => by go_simp)) ?_
  refine anyU_takeP (i := 28) (j := 34) (v := .bool true) 31 [] rfl rfl (by kernel_rfl) (by kernel_rfl) (by kernel_rfl) (fun _ _ _ h => h) (by kernel_rfl) (Ext.stable _) hCD (yieldsU_val rfl (fun u hu => by go_simp)) ?_
  simp only [Act.put, List.setIfInBounds_toArray, List.set_cons_succ, List.set_cons_zero]
  refine anyU_takeP (i := 29) (j := 34) (v := undef) 32 [33, 30] rfl rfl (by kernel_rfl) (by kernel_rfl) (by kernel_rfl) (fun _ _ _ h => h) (by kernel_rfl) (Ext.stable _) hCD (.inr ⟨by rfl, rfl⟩) ?_
  refine anyU_takeP (i := 30) (j := 34) (v := undef) 33 [33] rfl rfl (by kernel_rfl) (by kernel_rfl) (by kernel_rfl) (fun _ _ _ h => h) (by kernel_rfl) (Ext.stable _) hCD (.inr ⟨by rfl, rfl⟩) ?_
  refine anyU_takeP (i := 31) (j := 34) (v := undef) 34 [33, 32] rfl rfl (by kernel_rfl) (by kernel_rfl) (by kernel_rfl) (fun _ _ _ h => h) (by kernel_rfl) (Ext.stable _) hCD (.inr ⟨by rfl, rfl⟩) ?_
  refine anyU_takeP (i := 32) (j := 34) (v := undef) 35 [33] rfl rfl (by kernel_rfl) (by kernel_rfl) (by kernel_rfl) (fun _ _ _ h => h) (by kernel_rfl) (Ext.stable _) hCD (.inr ⟨by rfl, rfl⟩) ?_
  refine anyU_takeP (i := 33) (j := 34) (v := undef) 36 [] rfl rfl (by kernel_rfl) (by kernel_rfl) (by kernel_rfl) (fun _ _ _ h => h) (by kernel_rfl) (Ext.stable _) hCD (.inr ⟨by rfl, rfl⟩) ?_
  simp only [Act.put, List.setIfInBounds_toArray, List.set_cons_succ, List.set_cons_zero]
  refine anyU_tail 34 [] rfl rfl (by decide) (by kernel_rfl) ?_
  intro u3 hu3
  simp only [Act.put, List.filterMap_cons, List.filterMap_nil, List.getElem?_cons_succ, List.getElem?_cons_zero]
  have B3 := Lib.hid (bel_trans B0.out hu3)
  clear hu3
  go_wp2_with fail
  go_ret
  exact ⟨rfl, B3.out⟩
set_option maxRecDepth 100000 in
set_option maxHeartbeats 4000000 in
theorem rcheck_big (l k a b : Int) (zs : List Int) (w : World) (hz : Hid (zs.length = 32)) (ln : Hid (64 ≤ l)) :
    Calls Tryz.prog 57 #[.agg (rtv l k a b zs).toArray] w fun e w' => e = .returned (.int .i64 160) ∧ Below w.heap.size w w' := by
  have t1 : ¬ l < 0 := by have := ln.out; omega
  have t2 : ¬ l < 64 := by have := ln.out; omega
  have t3 : l ≥ 64 := by omega
  have X := Lib.hid (RBlk.box w l k a b hz.out)
  have BX := Lib.hid (bel_alloc1 w (.cells (rtv l k a b zs).toArray 29))
  go_enter Tryz.func57, Tryz.ntmps57
  go_upto_region 1 with fail
  refine wp_region_any (by kernel_rfl) ?_
  change wpAny _ _ _ _ _ _ _ (World.drew _)
  generalize hWD : World.drew _ = W
  have X0 := Lib.hid (show RBlk W w.heap.size l k a b zs by rw [← hWD]; exact X.out)
  have B0 := Lib.hid (show Below w.heap.size w W by rw [← hWD]; exact BX.out.drew)
  clear hWD X BX
  have hCD : ∀ u, Ext W u → Ext W u := fun u hu => hu
  refine region_U (D := Ext W) (Ext W) [34] (Ext.refl W) ?_
  refine anyU_takeP (i := 0) (j := 34) (v := .pointer (some ⟨w.heap.size, 0, none⟩)) 3 [28, 27, 21, 20, 14, 13, 8, 3, 2, 1] rfl rfl (by kernel_rfl) (by kernel_rfl) (by kernel_rfl) (fun _ _ _ h => h) (by kernel_rfl) (Ext.stable _) hCD (yieldsU_val rfl (fun u hu => by go_simp)) ?_
  refine anyU_takeP (i := 1) (j := 34) (v := .int .i64 l) 4 [28, 27, 21, 20, 14, 13, 8, 3, 2] rfl rfl (by kernel_rfl) (by kernel_rfl) (by kernel_rfl) (fun _ _ _ h => h) (by kernel_rfl) (Ext.stable _) hCD (yieldsU_val rfl (fun u hu => by obtain ⟨c0, c1, c2, c3⟩ := (X0.out.bel hu).ints; go_simp)) ?_
  refine anyU_takeP (i := 2) (j := 34) (v := .bool false) 5 [28, 27, 21, 20, 14, 13, 8, 3] rfl rfl (by kernel_rfl) (by kernel_rfl) (by kernel_rfl) (fun _ _ _ h => h) (by kernel_rfl) (Ext.stable _) hCD (yieldsU_val rfl (fun u hu => by go_simp)) ?_
  refine anyU_takeP (i := 3) (j := 34) (v := .bool false) 6 [28, 27, 21, 20, 14, 13, 8] rfl rfl (by kernel_rfl) (by kernel_rfl) (by kernel_rfl) (fun _ _ _ h => h) (by kernel_rfl) (Ext.stable _) hCD (yieldsU_val rfl (fun u hu => by go_simp)) ?_
  simp only [Act.put, List.setIfInBounds_toArray, List.set_cons_succ, List.set_cons_zero]
  refine anyU_takeP (i := 4) (j := 34) (v := .pointer (some ⟨w.heap.size, 0, none⟩)) 7 [28, 27, 21, 20, 14, 13, 8, 7, 6, 5] rfl rfl (by kernel_rfl) (by kernel_rfl) (by kernel_rfl) (fun _ _ _ h => h) (by kernel_rfl) (Ext.stable _) hCD (yieldsU_val rfl (fun u hu => by go_simp)) ?_
  refine anyU_takeP (i := 5) (j := 34) (v := .int .i64 l) 8 [28, 27, 21, 20, 14, 13, 8, 7, 6] rfl rfl (by kernel_rfl) (by kernel_rfl) (by kernel_rfl) (fun _ _ _ h => h) (by kernel_rfl) (Ext.stable _) hCD (yieldsU_val rfl (fun u hu => by obtain ⟨c0, c1, c2, c3⟩ := (X0.out.bel hu).ints; go_simp)) ?_
  refine anyU_takeP (i := 6) (j := 34) (v := .bool true) 9 [28, 27, 21, 20, 14, 13, 8, 7] rfl rfl (by kernel_rfl) (by kernel_rfl) (by kernel_rfl) (fun _ _ _ h => h) (by kernel_rfl) (Ext.stable _) hCD (yieldsU_val rfl (fun u hu => by go_simp)) ?_
  refine anyU_takeP (i := 7) (j := 34) (v := .bool true) 10 [28, 27, 21, 20, 14, 13, 8] rfl rfl (by kernel_rfl) (by kernel_rfl) (by kernel_rfl) (fun _ _ _ h => h) (by kernel_rfl) (Ext.stable _) hCD (yieldsU_val rfl (fun u hu => by go_simp)) ?_
  refine anyU_takeP (i := 8) (j := 34) (v := .bool true) 11 [28, 27, 21, 20, 14, 13] rfl rfl (by kernel_rfl) (by kernel_rfl) (by kernel_rfl) (fun _ _ _ h => h) (by kernel_rfl) (Ext.stable _) hCD (yieldsU_val rfl (fun u hu => by go_simp)) ?_
  simp only [Act.put, List.setIfInBounds_toArray, List.set_cons_succ, List.set_cons_zero]
  refine anyU_takeP (i := 9) (j := 34) (v := undef) 12 [28, 27, 21, 20, 14, 11, 10] rfl rfl (by kernel_rfl) (by kernel_rfl) (by kernel_rfl) (fun _ _ _ h => h) (by kernel_rfl) (Ext.stable _) hCD (.inr ⟨by rfl, rfl⟩) ?_
  refine anyU_takeP (i := 10) (j := 34) (v := undef) 13 [28, 27, 21, 20, 14, 11] rfl rfl (by kernel_rfl) (by kernel_rfl) (by kernel_rfl) (fun _ _ _ h => h) (by kernel_rfl) (Ext.stable _) hCD (.inr ⟨by rfl, rfl⟩) ?_
  refine anyU_takeP (i := 11) (j := 34) (v := undef) 14 [28, 27, 21, 20, 14] rfl rfl (by kernel_rfl) (by kernel_rfl) (by kernel_rfl) (fun _ _ _ h => h) (by kernel_rfl) (Ext.stable _) hCD (.inr ⟨by rfl, rfl⟩) ?_
  refine anyU_takeP (i := 12) (j := 34) (v := undef) 15 [28, 27, 21, 20, 14, 13] rfl rfl (by kernel_rfl) (by kernel_rfl) (by kernel_rfl) (fun _ _ _ h => h) (by kernel_rfl) (Ext.stable _) hCD (.inr ⟨by rfl, rfl⟩) ?_
  simp only [Act.put, List.setIfInBounds_toArray, List.set_cons_succ, List.set_cons_zero]
  refine anyU_takeP (i := 13) (j := 34) (v := .bool true) 16 [28, 27, 21, 20, 14] rfl rfl (by kernel_rfl) (by kernel_rfl) (by kernel_rfl) (fun _ _ _ h => h) (by kernel_rfl) (Ext.stable _) hCD (yieldsU_val rfl (fun u hu => by go_simp)) ?_
  refine anyU_takeP (i := 14) (j := 34) (v := .bool true) 17 [28, 27, 21, 20] rfl rfl (by kernel_rfl) (by kernel_rfl) (by kernel_rfl) (fun _ _ _ h => h) (by kernel_rfl) (Ext.stable _) hCD (yieldsU_val rfl (fun u hu => by go_simp)) ?_
  refine anyU_takeP (i := 15) (j := 34) (v := undef) 18 [28, 27, 21, 18, 17, 16] rfl rfl (by kernel_rfl) (by kernel_rfl) (by kernel_rfl) (fun _ _ _ h => h) (by kernel_rfl) (Ext.stable _) hCD (.inr ⟨by rfl, rfl⟩) ?_
  refine anyU_takeP (i := 16) (j := 34) (v := undef) 19 [28, 27, 21, 18, 17] rfl rfl (by kernel_rfl) (by kernel_rfl) (by kernel_rfl) (fun _ _ _ h => h) (by kernel_rfl) (Ext.stable _) hCD (.inr ⟨by rfl, rfl⟩) ?_
  refine anyU_takeP (i := 17) (j := 34) (v := undef) 20 [28, 27, 21, 18] rfl rfl (by kernel_rfl) (by kernel_rfl) (by kernel_rfl) (fun _ _ _ h => h) (by kernel_rfl) (Ext.stable _) hCD (.inr ⟨by rfl, rfl⟩) ?_
  refine anyU_takeP (i := 18) (j := 34) (v := undef) 21 [28, 27, 21] rfl rfl (by kernel_rfl) (by kernel_rfl) (by kernel_rfl) (fun _ _ _ h => h) (by kernel_rfl) (Ext.stable _) hCD (.inr ⟨by rfl, rfl⟩) ?_
  refine anyU_takeP (i := 19) (j := 34) (v := undef) 22 [28, 27, 21, 20] rfl rfl (by kernel_rfl) (by kernel_rfl) (by kernel_rfl) (fun _ _ _ h => h) (by kernel_rfl) (Ext.stable _) hCD (.inr ⟨by rfl, rfl⟩) ?_
  simp only [Act.put, List.setIfInBounds_toArray, List.set_cons_succ, List.set_cons_zero]
  refine anyU_takeP (i := 20) (j := 34) (v := .bool true) 23 [28, 27, 21] rfl rfl (by kernel_rfl) (by kernel_rfl) (by kernel_rfl) (fun _ _ _ h => h) (by kernel_rfl) (Ext.stable _) hCD (yieldsU_val rfl (fun u hu => by go_simp)) ?_
  refine anyU_takeP (i := 21) (j := 34) (v := .bool true) 24 [28, 27] rfl rfl (by kernel_rfl) (by kernel_rfl) (by kernel_rfl) (fun _ _ _ h => h) (by kernel_rfl) (Ext.stable _) hCD (yieldsU_val rfl (fun u hu => by go_simp)) ?_
  refine anyU_takeP (i := 22) (j := 34) (v := undef) 25 [28, 25, 24, 23] rfl rfl (by kernel_rfl) (by kernel_rfl) (by kernel_rfl) (fun _ _ _ h => h) (by kernel_rfl) (Ext.stable _) hCD (.inr ⟨by rfl, rfl⟩) ?_
  refine anyU_takeP (i := 23) (j := 34) (v := undef) 26 [28, 25, 24] rfl rfl (by kernel_rfl) (by kernel_rfl) (by kernel_rfl) (fun _ _ _ h => h) (by kernel_rfl) (Ext.stable _) hCD (.inr ⟨by rfl, rfl⟩) ?_
  refine anyU_takeP (i := 24) (j := 34) (v := undef) 27 [28, 25] rfl rfl (by kernel_rfl) (by kernel_rfl) (by kernel_rfl) (fun _ _ _ h => h) (by kernel_rfl) (Ext.stable _) hCD (.inr ⟨by rfl, rfl⟩) ?_
  refine anyU_takeP (i := 25) (j := 34) (v := undef) 28 [28] rfl rfl (by kernel_rfl) (by kernel_rfl) (by kernel_rfl) (fun _ _ _ h => h) (by kernel_rfl) (Ext.stable _) hCD (.inr ⟨by rfl, rfl⟩) ?_
  refine anyU_takeP (i := 26) (j := 34) (v := undef) 29 [28, 27] rfl rfl (by kernel_rfl) (by kernel_rfl) (by kernel_rfl) (fun _ _ _ h => h) (by kernel_rfl) (Ext.stable _) hCD (.inr ⟨by rfl, rfl⟩) ?_
  simp only [Act.put, List.setIfInBounds_toArray, List.set_cons_succ, List.set_cons_zero]
  refine anyU_takeP (i := 27) (j := 34) (v := .bool true) 30 [28] rfl rfl (by kernel_rfl) (by kernel_rfl) (by kernel_rfl) (fun _ _ _ h => h) (by kernel_rfl) (Ext.stable _) hCD (yieldsU_val rfl (fun u hu => by go_simp)) ?_
  refine anyU_takeP (i := 28) (j := 34) (v := .bool true) 31 [] rfl rfl (by kernel_rfl) (by kernel_rfl) (by kernel_rfl) (fun _ _ _ h => h) (by kernel_rfl) (Ext.stable _) hCD (yieldsU_val rfl (fun u hu => by go_simp)) ?_
  simp only [Act.put, List.setIfInBounds_toArray, List.set_cons_succ, List.set_cons_zero]
  refine anyU_takeP (i := 29) (j := 34) (v := undef) 32 [33, 30] rfl rfl (by kernel_rfl) (by kernel_rfl) (by kernel_rfl) (fun _ _ _ h => h) (by kernel_rfl) (Ext.stable _) hCD (.inr ⟨by rfl, rfl⟩) ?_
  refine anyU_takeP (i := 30) (j := 34) (v := undef) 33 [33] rfl rfl (by kernel_rfl) (by kernel_rfl) (by kernel_rfl) (fun _ _ _ h => h) (by kernel_rfl) (Ext.stable _) hCD (.inr ⟨by rfl, rfl⟩) ?_
  refine anyU_takeP (i := 31) (j := 34) (v := undef) 34 [33, 32] rfl rfl (by kernel_rfl) (by kernel_rfl) (by kernel_rfl) (fun _ _ _ h => h) (by kernel_rfl) (Ext.stable _) hCD (.inr ⟨by rfl, rfl⟩) ?_
  refine anyU_takeP (i := 32) (j := 34) (v := undef) 35 [33] rfl rfl (by kernel_rfl) (by kernel_rfl) (by kernel_rfl) (fun _ _ _ h => h) (by kernel_rfl) (Ext.stable _) hCD (.inr ⟨by rfl, rfl⟩) ?_
  refine anyU_takeP (i := 33) (j := 34) (v := undef) 36 [] rfl rfl (by kernel_rfl) (by kernel_rfl) (by kernel_rfl) (fun _ _ _ h => h) (by kernel_rfl) (Ext.stable _) hCD (.inr ⟨by rfl, rfl⟩) ?_
  simp only [Act.put, List.setIfInBounds_toArray, List.set_cons_succ, List.set_cons_zero]
  refine anyU_tail 34 [] rfl rfl (by decide) (by kernel_rfl) ?_
  intro u3 hu3
  simp only [Act.put, List.filterMap_cons, List.filterMap_nil, List.getElem?_cons_succ, List.getElem?_cons_zero]
  have B3 := Lib.hid (bel_trans B0.out hu3)
  clear hu3
  go_wp2_with fail
  go_ret
  exact ⟨rfl, B3.out⟩
set_option maxRecDepth 100000 in
set_option maxHeartbeats 4000000 in
theorem rcheck_n1 (l k a b : Int) (zs : List Int) (w : World) (hz : Hid (zs.length = 32)) (ln : Hid (0 ≤ l ∧ l < 64)) (hk : Hid (elB k = false)) :
    Calls Tryz.prog 57 #[.agg (rtv l k a b zs).toArray] w fun e w' => e = .returned (.int .i64 160) ∧ Below w.heap.size w w' := by
  have t1 : ¬ l < 0 := by have := ln.out; omega
  have t2 : ¬ l ≥ 64 := by have := ln.out; omega
  have t3 : l < 64 := by omega
  have X := Lib.hid (RBlk.box w l k a b hz.out)
  have BX := Lib.hid (bel_alloc1 w (.cells (rtv l k a b zs).toArray 29))
  go_enter Tryz.func57, Tryz.ntmps57
  go_upto_region 1 with fail
  refine wp_region_any (by kernel_rfl) ?_
  change wpAny _ _ _ _ _ _ _ (World.drew _)
  generalize hWD : World.drew _ = W
  have X0 := Lib.hid (show RBlk W w.heap.size l k a b zs by rw [← hWD]; exact X.out)
  have B0 := Lib.hid (show Below w.heap.size w W by rw [← hWD]; exact BX.out.drew)
  clear hWD X BX
  have hCD : ∀ u, Ext W u → Ext W u := fun u hu => hu
  refine region_U (D := Ext W) (Ext W) [34] (Ext.refl W) ?_
  refine anyU_takeP (i := 0) (j := 34) (v := .pointer (some ⟨w.heap.size, 0, none⟩)) 3 [28, 27, 21, 20, 14, 13, 8, 3, 2, 1] rfl rfl (by kernel_rfl) (by kernel_rfl) (by kernel_rfl) (fun _ _ _ h => h) (by kernel_rfl) (Ext.stable _) hCD (yieldsU_val rfl (fun u hu => by go_simp)) ?_
  refine anyU_takeP (i := 1) (j := 34) (v := .int .i64 l) 4 [28, 27, 21, 20, 14, 13, 8, 3, 2] rfl rfl (by kernel_rfl) (by kernel_rfl) (by kernel_rfl) (fun _ _ _ h => h) (by kernel_rfl) (Ext.stable _) hCD (yieldsU_val rfl (fun u hu => by obtain ⟨c0, c1, c2, c3⟩ := (X0.out.bel hu).ints; go_simp)) ?_
  refine anyU_takeP (i := 2) (j := 34) (v := .bool false) 5 [28, 27, 21, 20, 14, 13, 8, 3] rfl rfl (by kernel_rfl) (by kernel_rfl) (by kernel_rfl) (fun _ _ _ h => h) (by kernel_rfl) (Ext.stable _) hCD (yieldsU_val rfl (fun u hu => by go_simp)) ?_
  refine anyU_takeP (i := 3) (j := 34) (v := .bool false) 6 [28, 27, 21, 20, 14, 13, 8] rfl rfl (by kernel_rfl) (by kernel_rfl) (by kernel_rfl) (fun _ _ _ h => h) (by kernel_rfl) (Ext.stable _) hCD (yieldsU_val rfl (fun u hu => by go_simp)) ?_
  simp only [Act.put, List.setIfInBounds_toArray, List.set_cons_succ, List.set_cons_zero]
  refine anyU_takeP (i := 4) (j := 34) (v := .pointer (some ⟨w.heap.size, 0, none⟩)) 7 [28, 27, 21, 20, 14, 13, 8, 7, 6, 5] rfl rfl (by kernel_rfl) (by kernel_rfl) (by kernel_rfl) (fun _ _ _ h => h) (by kernel_rfl) (Ext.stable _) hCD (yieldsU_val rfl (fun u hu => by go_simp)) ?_
  refine anyU_takeP (i := 5) (j := 34) (v := .int .i64 l) 8 [28, 27, 21, 20, 14, 13, 8, 7, 6] rfl rfl (by kernel_rfl) (by kernel_rfl) (by kernel_rfl) (fun _ _ _ h => h) (by kernel_rfl) (Ext.stable _) hCD (yieldsU_val rfl (fun u hu => by obtain ⟨c0, c1, c2, c3⟩ := (X0.out.bel hu).ints; go_simp)) ?_
  refine anyU_takeP (i := 6) (j := 34) (v := .bool false) 9 [28, 27, 21, 20, 14, 13, 8, 7] rfl rfl (by kernel_rfl) (by kernel_rfl) (by kernel_rfl) (fun _ _ _ h => h) (by kernel_rfl) (Ext.stable _) hCD (yieldsU_val rfl (fun u hu => by go_simp)) ?_
  refine anyU_takeP (i := 7) (j := 34) (v := .bool false) 10 [28, 27, 21, 20, 14, 13, 8] rfl rfl (by kernel_rfl) (by kernel_rfl) (by kernel_rfl) (fun _ _ _ h => h) (by kernel_rfl) (Ext.stable _) hCD (yieldsU_val rfl (fun u hu => by go_simp)) ?_
  refine anyU_takeP (i := 8) (j := 34) (v := .bool false) 11 [28, 27, 21, 20, 14, 13] rfl rfl (by kernel_rfl) (by kernel_rfl) (by kernel_rfl) (fun _ _ _ h => h) (by kernel_rfl) (Ext.stable _) hCD (yieldsU_val rfl (fun u hu => by go_simp)) ?_
  simp only [Act.put, List.setIfInBounds_toArray, List.set_cons_succ, List.set_cons_zero]
  refine anyU_takeP (i := 9) (j := 34) (v := .pointer (some ⟨w.heap.size, 1, none⟩)) 12 [28, 27, 21, 20, 14, 11, 10] rfl rfl (by kernel_rfl) (by kernel_rfl) (by kernel_rfl) (fun _ _ _ h => h) (by kernel_rfl) (Ext.stable _) hCD (yieldsU_val rfl (fun u hu => by go_simp)) ?_
  refine anyU_takeP (i := 10) (j := 34) (v := .int .i64 k) 13 [28, 27, 21, 20, 14, 11] rfl rfl (by kernel_rfl) (by kernel_rfl) (by kernel_rfl) (fun _ _ _ h => h) (by kernel_rfl) (Ext.stable _) hCD (yieldsU_val rfl (fun u hu => by obtain ⟨c0, c1, c2, c3⟩ := (X0.out.bel hu).ints; go_simp)) ?_
  refine anyU_takeP (i := 11) (j := 34) (v := .bool false) 14 [28, 27, 21, 20, 14] rfl rfl (by kernel_rfl) (by kernel_rfl) (by kernel_rfl) (fun _ _ _ h => h) (by kernel_rfl) (Ext.stable _) hCD (yieldsU_call rfl 63 _ _ rfl #[.int .i64 k] (by simp [Act.eval, Act.put]) (fun u => by go_simp) (fun u hu => by have q := rvalid_any k u; rw [hk.out] at q; exact q.mono fun e w' hh => ⟨hh.1, hh.2 ▸ Below.refl _ _⟩)) ?_
  refine anyU_takeP (i := 12) (j := 34) (v := .bool true) 15 [28, 27, 21, 20, 14, 13] rfl rfl (by kernel_rfl) (by kernel_rfl) (by kernel_rfl) (fun _ _ _ h => h) (by kernel_rfl) (Ext.stable _) hCD (yieldsU_val rfl (fun u hu => by go_simp)) ?_
  simp only [Act.put, List.setIfInBounds_toArray, List.set_cons_succ, List.set_cons_zero]
  refine anyU_takeP (i := 13) (j := 34) (v := .bool true) 16 [28, 27, 21, 20, 14] rfl rfl (by kernel_rfl) (by kernel_rfl) (by kernel_rfl) (fun _ _ _ h => h) (by kernel_rfl) (Ext.stable _) hCD (yieldsU_val rfl (fun u hu => by go_simp)) ?_
  refine anyU_takeP (i := 14) (j := 34) (v := .bool true) 17 [28, 27, 21, 20] rfl rfl (by kernel_rfl) (by kernel_rfl) (by kernel_rfl) (fun _ _ _ h => h) (by kernel_rfl) (Ext.stable _) hCD (yieldsU_val rfl (fun u hu => by go_simp)) ?_
  refine anyU_takeP (i := 15) (j := 34) (v := undef) 18 [28, 27, 21, 18, 17, 16] rfl rfl (by kernel_rfl) (by kernel_rfl) (by kernel_rfl) (fun _ _ _ h => h) (by kernel_rfl) (Ext.stable _) hCD (.inr ⟨by rfl, rfl⟩) ?_
  refine anyU_takeP (i := 16) (j := 34) (v := undef) 19 [28, 27, 21, 18, 17] rfl rfl (by kernel_rfl) (by kernel_rfl) (by kernel_rfl) (fun _ _ _ h => h) (by kernel_rfl) (Ext.stable _) hCD (.inr ⟨by rfl, rfl⟩) ?_
  refine anyU_takeP (i := 17) (j := 34) (v := undef) 20 [28, 27, 21, 18] rfl rfl (by kernel_rfl) (by kernel_rfl) (by kernel_rfl) (fun _ _ _ h => h) (by kernel_rfl) (Ext.stable _) hCD (.inr ⟨by rfl, rfl⟩) ?_
  refine anyU_takeP (i := 18) (j := 34) (v := undef) 21 [28, 27, 21] rfl rfl (by kernel_rfl) (by kernel_rfl) (by kernel_rfl) (fun _ _ _ h => h) (by kernel_rfl) (Ext.stable _) hCD (.inr ⟨by rfl, rfl⟩) ?_
  refine anyU_takeP (i := 19) (j := 34) (v := undef) 22 [28, 27, 21, 20] rfl rfl (by kernel_rfl) (by kernel_rfl) (by kernel_rfl) (fun _ _ _ h => h) (by kernel_rfl) (Ext.stable _) hCD (.inr ⟨by rfl, rfl⟩) ?_
  simp only [Act.put, List.setIfInBounds_toArray, List.set_cons_succ, List.set_cons_zero]
  refine anyU_takeP (i := 20) (j := 34) (v := .bool true) 23 [28, 27, 21] rfl rfl (by kernel_rfl) (by kernel_rfl) (by kernel_rfl) (fun _ _ _ h => h) (by kernel_rfl) (Ext.stable _) hCD (yieldsU_val rfl (fun u hu => by go_simp)) ?_
  refine anyU_takeP (i := 21) (j := 34) (v := .bool true) 24 [28, 27] rfl rfl (by kernel_rfl) (by kernel_rfl) (by kernel_rfl) (fun _ _ _ h => h) (by kernel_rfl) (Ext.stable _) hCD (yieldsU_val rfl (fun u hu => by go_simp)) ?_
  refine anyU_takeP (i := 22) (j := 34) (v := undef) 25 [28, 25, 24, 23] rfl rfl (by kernel_rfl) (by kernel_rfl) (by kernel_rfl) (fun _ _ _ h => h) (by kernel_rfl) (Ext.stable _) hCD (.inr ⟨by rfl, rfl⟩) ?_
  refine anyU_takeP (i := 23) (j := 34) (v := undef) 26 [28, 25, 24] rfl rfl (by kernel_rfl) (by kernel_rfl) (by kernel_rfl) (fun _ _ _ h => h) (by kernel_rfl) (Ext.stable _) hCD (.inr ⟨by rfl, rfl⟩) ?_
  refine anyU_takeP (i := 24) (j := 34) (v := undef) 27 [28, 25] rfl rfl (by kernel_rfl) (by kernel_rfl) (by kernel_rfl) (fun _ _ _ h => h) (by kernel_rfl) (Ext.stable _) hCD (.inr ⟨by rfl, rfl⟩) ?_
  refine anyU_takeP (i := 25) (j := 34) (v := undef) 28 [28] rfl rfl (by kernel_rfl) (by kernel_rfl) (by kernel_rfl) (fun _ _ _ h => h) (by kernel_rfl) (Ext.stable _) hCD (.inr ⟨by rfl, rfl⟩) ?_
  refine anyU_takeP (i := 26) (j := 34) (v := undef) 29 [28, 27] rfl rfl (by kernel_rfl) (by kernel_rfl) (by kernel_rfl) (fun _ _ _ h => h) (by kernel_rfl) (Ext.stable _) hCD (.inr ⟨by rfl, rfl⟩) ?_
  simp only [Act.put, List.setIfInBounds_toArray, List.set_cons_succ, List.set_cons_zero]
  refine anyU_takeP (i := 27) (j := 34) (v := .bool true) 30 [28] rfl rfl (by kernel_rfl) (by kernel_rfl) (by kernel_rfl) (fun _ _ _ h => h) (by kernel_rfl) (Ext.stable _) hCD (yieldsU_val rfl (fun u hu => by go_simp)) ?_
  refine anyU_takeP (i := 28) (j := 34) (v := .bool true) 31 [] rfl rfl (by kernel_rfl) (by kernel_rfl) (by kernel_rfl) (fun _ _ _ h => h) (by kernel_rfl) (Ext.stable _) hCD (yieldsU_val rfl (fun u hu => by go_simp)) ?_
  simp only [Act.put, List.setIfInBounds_toArray, List.set_cons_succ, List.set_cons_zero]
  refine anyU_takeP (i := 29) (j := 34) (v := undef) 32 [33, 30] rfl rfl (by kernel_rfl) (by kernel_rfl) (by kernel_rfl) (fun _ _ _ h => h) (by kernel_rfl) (Ext.stable _) hCD (.inr ⟨by rfl, rfl⟩) ?_
  refine anyU_takeP (i := 30) (j := 34) (v := undef) 33 [33] rfl rfl (by kernel_rfl) (by kernel_rfl) (by kernel_rfl) (fun _ _ _ h => h) (by kernel_rfl) (Ext.stable _) hCD (.inr ⟨by rfl, rfl⟩) ?_
  refine anyU_takeP (i := 31) (j := 34) (v := undef) 34 [33, 32] rfl rfl (by kernel_rfl) (by kernel_rfl) (by kernel_rfl) (fun _ _ _ h => h) (by kernel_rfl) (Ext.stable _) hCD (.inr ⟨by rfl, rfl⟩) ?_
  refine anyU_takeP (i := 32) (j := 34) (v := undef) 35 [33] rfl rfl (by kernel_rfl) (by kernel_rfl) (by kernel_rfl) (fun _ _ _ h => h) (by kernel_rfl) (Ext.stable _) hCD (.inr ⟨by rfl, rfl⟩) ?_
  refine anyU_takeP (i := 33) (j := 34) (v := undef) 36 [] rfl rfl (by kernel_rfl) (by kernel_rfl) (by kernel_rfl) (fun _ _ _ h => h) (by kernel_rfl) (Ext.stable _) hCD (.inr ⟨by rfl, rfl⟩) ?_
  simp only [Act.put, List.setIfInBounds_toArray, List.set_cons_succ, List.set_cons_zero]
  refine anyU_tail 34 [] rfl rfl (by decide) (by kernel_rfl) ?_
  intro u3 hu3
  simp only [Act.put, List.filterMap_cons, List.filterMap_nil, List.getElem?_cons_succ, List.getElem?_cons_zero]
  have B3 := Lib.hid (bel_trans B0.out hu3)
  clear hu3
  go_wp2_with fail
  go_ret
  exact ⟨rfl, B3.out⟩
set_option maxRecDepth 100000 in
set_option maxHeartbeats 4000000 in
theorem rcheck_n2 (l k a b : Int) (zs : List Int) (w : World) (hz : Hid (zs.length = 32)) (ln : Hid (0 ≤ l ∧ l < 64)) (hk : Hid (elB k = true)) (ha : Hid (elB a = false)) :
    Calls Tryz.prog 57 #[.agg (rtv l k a b zs).toArray] w fun e w' => e = .returned (.int .i64 160) ∧ Below w.heap.size w w' := by
  have t1 : ¬ l < 0 := by have := ln.out; omega
  have t2 : ¬ l ≥ 64 := by have := ln.out; omega
  have t3 : l < 64 := by omega
  have X := Lib.hid (RBlk.box w l k a b hz.out)
  have BX := Lib.hid (bel_alloc1 w (.cells (rtv l k a b zs).toArray 29))
  go_enter Tryz.func57, Tryz.ntmps57
  go_upto_region 1 with fail
  refine wp_region_any (by kernel_rfl) ?_
  change wpAny _ _ _ _ _ _ _ (World.drew _)
  generalize hWD : World.drew _ = W
  have X0 := Lib.hid (show RBlk W w.heap.size l k a b zs by rw [← hWD]; exact X.out)
  have B0 := Lib.hid (show Below w.heap.size w W by rw [← hWD]; exact BX.out.drew)
  clear hWD X BX
  have hCD : ∀ u, Ext W u → Ext W u := fun u hu => hu
  refine region_U (D := Ext W) (Ext W) [34] (Ext.refl W) ?_
  refine anyU_takeP (i := 0) (j := 34) (v := .pointer (some ⟨w.heap.size, 0, none⟩)) 3 [28, 27, 21, 20, 14, 13, 8, 3, 2, 1] rfl rfl (by kernel_rfl) (by kernel_rfl) (by kernel_rfl) (fun _ _ _ h => h) (by kernel_rfl) (Ext.stable _) hCD (yieldsU_val rfl (fun u hu => by go_simp)) ?_
  refine anyU_takeP (i := 1) (j := 34) (v := .int .i64 l) 4 [28, 27, 21, 20, 14, 13, 8, 3, 2] rfl rfl (by kernel_rfl) (by kernel_rfl) (by kernel_rfl) (fun _ _ _ h => h) (by kernel_rfl) (Ext.stable _) hCD (yieldsU_val rfl (fun u hu => by obtain ⟨c0, c1, c2, c3⟩ := (X0.out.bel hu).ints; go_simp)) ?_
  refine anyU_takeP (i := 2) (j := 34) (v := .bool false) 5 [28, 27, 21, 20, 14, 13, 8, 3] rfl rfl (by kernel_rfl) (by kernel_rfl) (by kernel_rfl) (fun _ _ _ h => h) (by kernel_rfl) (Ext.stable _) hCD (yieldsU_val rfl (fun u hu => by go_simp)) ?_
  refine anyU_takeP (i := 3) (j := 34) (v := .bool false) 6 [28, 27, 21, 20, 14, 13, 8] rfl rfl (by kernel_rfl) (by kernel_rfl) (by kernel_rfl) (fun _ _ _ h => h) (by kernel_rfl) (Ext.stable _) hCD (yieldsU_val rfl (fun u hu => by go_simp)) ?_
  simp only [Act.put, List.setIfInBounds_toArray, List.set_cons_succ, List.set_cons_zero]
  refine anyU_takeP (i := 4) (j := 34) (v := .pointer (some ⟨w.heap.size, 0, none⟩)) 7 [28, 27, 21, 20, 14, 13, 8, 7, 6, 5] rfl rfl (by kernel_rfl) (by kernel_rfl) (by kernel_rfl) (fun _ _ _ h => h) (by kernel_rfl) (Ext.stable _) hCD (yieldsU_val rfl (fun u hu => by go_simp)) ?_
  refine anyU_takeP (i := 5) (j := 34) (v := .int .i64 l) 8 [28, 27, 21, 20, 14, 13, 8, 7, 6] rfl rfl (by kernel_rfl) (by kernel_rfl) (by kernel_rfl) (fun _ _ _ h => h) (by kernel_rfl) (Ext.stable _) hCD (yieldsU_val rfl (fun u hu => by obtain ⟨c0, c1, c2, c3⟩ := (X0.out.bel hu).ints; go_simp)) ?_
  refine anyU_takeP (i := 6) (j := 34) (v := .bool false) 9 [28, 27, 21, 20, 14, 13, 8, 7] rfl rfl (by kernel_rfl) (by kernel_rfl) (by kernel_rfl) (fun _ _ _ h => h) (by kernel_rfl) (Ext.stable _) hCD (yieldsU_val rfl (fun u hu => by go_simp)) ?_
  refine anyU_takeP (i := 7) (j := 34) (v := .bool false) 10 [28, 27, 21, 20, 14, 13, 8] rfl rfl (by kernel_rfl) (by kernel_rfl) (by kernel_rfl) (fun _ _ _ h => h) (by kernel_rfl) (Ext.stable _) hCD (yieldsU_val rfl (fun u hu => by go_simp)) ?_
  refine anyU_takeP (i := 8) (j := 34) (v := .bool false) 11 [28, 27, 21, 20, 14, 13] rfl rfl (by kernel_rfl) (by kernel_rfl) (by kernel_rfl) (fun _ _ _ h => h) (by kernel_rfl) (Ext.stable _) hCD (yieldsU_val rfl (fun u hu => by go_simp)) ?_
  simp only [Act.put, List.setIfInBounds_toArray, List.set_cons_succ, List.set_cons_zero]
  refine anyU_takeP (i := 9) (j := 34) (v := .pointer (some ⟨w.heap.size, 1, none⟩)) 12 [28, 27, 21, 20, 14, 11, 10] rfl rfl (by kernel_rfl) (by kernel_rfl) (by kernel_rfl) (fun _ _ _ h => h) (by kernel_rfl) (Ext.stable _) hCD (yieldsU_val rfl (fun u hu => by go_simp)) ?_
  refine anyU_takeP (i := 10) (j := 34) (v := .int .i64 k) 13 [28, 27, 21, 20, 14, 11] rfl rfl (by kernel_rfl) (by kernel_rfl) (by kernel_rfl) (fun _ _ _ h => h) (by kernel_rfl) (Ext.stable _) hCD (yieldsU_val rfl (fun u hu => by obtain ⟨c0, c1, c2, c3⟩ := (X0.out.bel hu).ints; go_simp)) ?_
  refine anyU_takeP (i := 11) (j := 34) (v := .bool true) 14 [28, 27, 21, 20, 14] rfl rfl (by kernel_rfl) (by kernel_rfl) (by kernel_rfl) (fun _ _ _ h => h) (by kernel_rfl) (Ext.stable _) hCD (yieldsU_call rfl 63 _ _ rfl #[.int .i64 k] (by simp [Act.eval, Act.put]) (fun u => by go_simp) (fun u hu => by have q := rvalid_any k u; rw [hk.out] at q; exact q.mono fun e w' hh => ⟨hh.1, hh.2 ▸ Below.refl _ _⟩)) ?_
  refine anyU_takeP (i := 12) (j := 34) (v := .bool false) 15 [28, 27, 21, 20, 14, 13] rfl rfl (by kernel_rfl) (by kernel_rfl) (by kernel_rfl) (fun _ _ _ h => h) (by kernel_rfl) (Ext.stable _) hCD (yieldsU_val rfl (fun u hu => by go_simp)) ?_
  simp only [Act.put, List.setIfInBounds_toArray, List.set_cons_succ, List.set_cons_zero]
  refine anyU_takeP (i := 13) (j := 34) (v := .bool false) 16 [28, 27, 21, 20, 14] rfl rfl (by kernel_rfl) (by kernel_rfl) (by kernel_rfl) (fun _ _ _ h => h) (by kernel_rfl) (Ext.stable _) hCD (yieldsU_val rfl (fun u hu => by go_simp)) ?_
  refine anyU_takeP (i := 14) (j := 34) (v := .bool false) 17 [28, 27, 21, 20] rfl rfl (by kernel_rfl) (by kernel_rfl) (by kernel_rfl) (fun _ _ _ h => h) (by kernel_rfl) (Ext.stable _) hCD (yieldsU_val rfl (fun u hu => by go_simp)) ?_
  refine anyU_takeP (i := 15) (j := 34) (v := .pointer (some ⟨w.heap.size, 2, none⟩)) 18 [28, 27, 21, 18, 17, 16] rfl rfl (by kernel_rfl) (by kernel_rfl) (by kernel_rfl) (fun _ _ _ h => h) (by kernel_rfl) (Ext.stable _) hCD (yieldsU_val rfl (fun u hu => by go_simp)) ?_
  refine anyU_takeP (i := 16) (j := 34) (v := .pointer (some ⟨w.heap.size, 2, none⟩)) 19 [28, 27, 21, 18, 17] rfl rfl (by kernel_rfl) (by kernel_rfl) (by kernel_rfl) (fun _ _ _ h => h) (by kernel_rfl) (Ext.stable _) hCD (yieldsU_val rfl (fun u hu => by go_simp)) ?_
  refine anyU_takeP (i := 17) (j := 34) (v := .int .i64 a) 20 [28, 27, 21, 18] rfl rfl (by kernel_rfl) (by kernel_rfl) (by kernel_rfl) (fun _ _ _ h => h) (by kernel_rfl) (Ext.stable _) hCD (yieldsU_val rfl (fun u hu => by obtain ⟨c0, c1, c2, c3⟩ := (X0.out.bel hu).ints; go_simp)) ?_
  refine anyU_takeP (i := 18) (j := 34) (v := .bool false) 21 [28, 27, 21] rfl rfl (by kernel_rfl) (by kernel_rfl) (by kernel_rfl) (fun _ _ _ h => h) (by kernel_rfl) (Ext.stable _) hCD (yieldsU_call rfl 63 _ _ rfl #[.int .i64 a] (by simp [Act.eval, Act.put]) (fun u => by go_simp) (fun u hu => by have q := rvalid_any a u; rw [ha.out] at q; exact q.mono fun e w' hh => ⟨hh.1, hh.2 ▸ Below.refl _ _⟩)) ?_
  refine anyU_takeP (i := 19) (j := 34) (v := .bool true) 22 [28, 27, 21, 20] rfl rfl (by kernel_rfl) (by kernel_rfl) (by kernel_rfl) (fun _ _ _ h => h) (by kernel_rfl) (Ext.stable _) hCD (yieldsU_val rfl (fun u hu => by go_simp)) ?_
  simp only [Act.put, List.setIfInBounds_toArray, List.set_cons_succ, List.set_cons_zero]
  refine anyU_takeP (i := 20) (j := 34) (v := .bool true) 23 [28, 27, 21] rfl rfl (by kernel_rfl) (by kernel_rfl) (by kernel_rfl) (fun _ _ _ h => h) (by kernel_rfl) (Ext.stable _) hCD (yieldsU_val rfl (fun u hu => by go_simp)) ?_
  refine anyU_takeP (i := 21) (j := 34) (v := .bool true) 24 [28, 27] rfl rfl (by kernel_rfl) (by kernel_rfl) (by kernel_rfl) (fun _ _ _ h => h) (by kernel_rfl) (Ext.stable _) hCD (yieldsU_val rfl (fun u hu => by go_simp)) ?_
  refine anyU_takeP (i := 22) (j := 34) (v := undef) 25 [28, 25, 24, 23] rfl rfl (by kernel_rfl) (by kernel_rfl) (by kernel_rfl) (fun _ _ _ h => h) (by kernel_rfl) (Ext.stable _) hCD (.inr ⟨by rfl, rfl⟩) ?_
  refine anyU_takeP (i := 23) (j := 34) (v := undef) 26 [28, 25, 24] rfl rfl (by kernel_rfl) (by kernel_rfl) (by kernel_rfl) (fun _ _ _ h => h) (by kernel_rfl) (Ext.stable _) hCD (.inr ⟨by rfl, rfl⟩) ?_
  refine anyU_takeP (i := 24) (j := 34) (v := undef) 27 [28, 25] rfl rfl (by kernel_rfl) (by kernel_rfl) (by kernel_rfl) (fun _ _ _ h => h) (by kernel_rfl) (Ext.stable _) hCD (.inr ⟨by rfl, rfl⟩) ?_
  refine anyU_takeP (i := 25) (j := 34) (v := undef) 28 [28] rfl rfl (by kernel_rfl) (by kernel_rfl) (by kernel_rfl) (fun _ _ _ h => h) (by kernel_rfl) (Ext.stable _) hCD (.inr ⟨by rfl, rfl⟩) ?_
  refine anyU_takeP (i := 26) (j := 34) (v := undef) 29 [28, 27] rfl rfl (by kernel_rfl) (by kernel_rfl) (by kernel_rfl) (fun _ _ _ h => h) (by kernel_rfl) (Ext.stable _) hCD (.inr ⟨by rfl, rfl⟩) ?_
  simp only [Act.put, List.setIfInBounds_toArray, List.set_cons_succ, List.set_cons_zero]
  refine anyU_takeP (i := 27) (j := 34) (v := .bool true) 30 [28] rfl rfl (by kernel_rfl) (by kernel_rfl) (by kernel_rfl) (fun _ _ _ h => h) (by kernel_rfl) (Ext.stable _) hCD (yieldsU_val rfl (fun u hu => by go_simp)) ?_
  refine anyU_takeP (i := 28) (j := 34) (v := .bool true) 31 [] rfl rfl (by kernel_rfl) (by kernel_rfl) (by kernel_rfl) (fun _ _ _ h => h) (by kernel_rfl) (Ext.stable _) hCD (yieldsU_val rfl (fun u hu => by go_simp)) ?_
  simp only [Act.put, List.setIfInBounds_toArray, List.set_cons_succ, List.set_cons_zero]
  refine anyU_takeP (i := 29) (j := 34) (v := undef) 32 [33, 30] rfl rfl (by kernel_rfl) (by kernel_rfl) (by kernel_rfl) (fun _ _ _ h => h) (by kernel_rfl) (Ext.stable _) hCD (.inr ⟨by rfl, rfl⟩) ?_
  refine anyU_takeP (i := 30) (j := 34) (v := undef) 33 [33] rfl rfl (by kernel_rfl) (by kernel_rfl) (by kernel_rfl) (fun _ _ _ h => h) (by kernel_rfl) (Ext.stable _) hCD (.inr ⟨by rfl, rfl⟩) ?_
  refine anyU_takeP (i := 31) (j := 34) (v := undef) 34 [33, 32] rfl rfl (by kernel_rfl) (by kernel_rfl) (by kernel_rfl) (fun _ _ _ h => h) (by kernel_rfl) (Ext.stable _) hCD (.inr ⟨by rfl, rfl⟩) ?_
  refine anyU_takeP (i := 32) (j := 34) (v := undef) 35 [33] rfl rfl (by kernel_rfl) (by kernel_rfl) (by kernel_rfl) (fun _ _ _ h => h) (by kernel_rfl) (Ext.stable _) hCD (.inr ⟨by rfl, rfl⟩) ?_
  refine anyU_takeP (i := 33) (j := 34) (v := undef) 36 [] rfl rfl (by kernel_rfl) (by kernel_rfl) (by kernel_rfl) (fun _ _ _ h => h) (by kernel_rfl) (Ext.stable _) hCD (.inr ⟨by rfl, rfl⟩) ?_
  simp only [Act.put, List.setIfInBounds_toArray, List.set_cons_succ, List.set_cons_zero]
  refine anyU_tail 34 [] rfl rfl (by decide) (by kernel_rfl) ?_
  intro u3 hu3
  simp only [Act.put, List.filterMap_cons, List.filterMap_nil, List.getElem?_cons_succ, List.getElem?_cons_zero]
  have B3 := Lib.hid (bel_trans B0.out hu3)
  clear hu3
  go_wp2_with fail
  go_ret
  exact ⟨rfl, B3.out⟩
set_option maxRecDepth 100000 in
set_option maxHeartbeats 4000000 in
theorem rcheck_n3 (l k a b : Int) (zs : List Int) (w : World) (hz : Hid (zs.length = 32)) (ln : Hid (0 ≤ l ∧ l < 64)) (hk : Hid (elB k = true)) (ha : Hid (elB a = true)) (hb : Hid (elB b = false)) :
    Calls Tryz.prog 57 #[.agg (rtv l k a b zs).toArray] w fun e w' => e = .returned (.int .i64 160) ∧ Below w.heap.size w w' := by
  have t1 : ¬ l < 0 := by have := ln.out; omega
  have t2 : ¬ l ≥ 64 := by have := ln.out; omega
  have t3 : l < 64 := by omega
  have X := Lib.hid (RBlk.box w l k a b hz.out)
  have BX := Lib.hid (bel_alloc1 w (.cells (rtv l k a b zs).toArray 29))
  go_enter Tryz.func57, Tryz.ntmps57
  go_upto_region 1 with fail
  refine wp_region_any (by kernel_rfl) ?_
  change wpAny _ _ _ _ _ _ _ (World.drew _)
  generalize hWD : World.drew _ = W
  have X0 := Lib.hid (show RBlk W w.heap.size l k a b zs by rw [← hWD]; exact X.out)
  have B0 := Lib.hid (show Below w.heap.size w W by rw [← hWD]; exact BX.out.drew)
  clear hWD X BX
  have hCD : ∀ u, Ext W u → Ext W u := fun u hu => hu
  refine region_U (D := Ext W) (Ext W) [34] (Ext.refl W) ?_
  refine anyU_takeP (i := 0) (j := 34) (v := .pointer (some ⟨w.heap.size, 0, none⟩)) 3 [28, 27, 21, 20, 14, 13, 8, 3, 2, 1] rfl rfl (by kernel_rfl) (by kernel_rfl) (by kernel_rfl) (fun _ _ _ h => h) (by kernel_rfl) (Ext.stable _) hCD (yieldsU_val rfl (fun u hu => by go_simp)) ?_
  refine anyU_takeP (i := 1) (j := 34) (v := .int .i64 l) 4 [28, 27, 21, 20, 14, 13, 8, 3, 2] rfl rfl (by kernel_rfl) (by kernel_rfl) (by kernel_rfl) (fun _ _ _ h => h) (by kernel_rfl) (Ext.stable _) hCD (yieldsU_val rfl (fun u hu => by obtain ⟨c0, c1, c2, c3⟩ := (X0.out.bel hu).ints; go_simp)) ?_
  refine anyU_takeP (i := 2) (j := 34) (v := .bool false) 5 [28, 27, 21, 20, 14, 13, 8, 3] rfl rfl (by kernel_rfl) (by kernel_rfl) (by kernel_rfl) (fun _ _ _ h => h) (by kernel_rfl) (Ext.stable _) hCD (yieldsU_val rfl (fun u hu => by go_simp)) ?_
  refine anyU_takeP (i := 3) (j := 34) (v := .bool false) 6 [28, 27, 21, 20, 14, 13, 8] rfl rfl (by kernel_rfl) (by kernel_rfl) (by kernel_rfl) (fun _ _ _ h => h) (by kernel_rfl) (Ext.stable _) hCD (yieldsU_val rfl (fun u hu => by go_simp)) ?_
  simp only [Act.put, List.setIfInBounds_toArray, List.set_cons_succ, List.set_cons_zero]
  refine anyU_takeP (i := 4) (j := 34) (v := .pointer (some ⟨w.heap.size, 0, none⟩)) 7 [28, 27, 21, 20, 14, 13, 8, 7, 6, 5] rfl rfl (by kernel_rfl) (by kernel_rfl) (by kernel_rfl) (fun _ _ _ h => h) (by kernel_rfl) (Ext.stable _) hCD (yieldsU_val rfl (fun u hu => by go_simp)) ?_
  refine anyU_takeP (i := 5) (j := 34) (v := .int .i64 l) 8 [28, 27, 21, 20, 14, 13, 8, 7, 6] rfl rfl (by kernel_rfl) (by kernel_rfl) (by kernel_rfl) (fun _ _ _ h => h) (by kernel_rfl) (Ext.stable _) hCD (yieldsU_val rfl (fun u hu => by obtain ⟨c0, c1, c2, c3⟩ := (X0.out.bel hu).ints; go_simp)) ?_
  refine anyU_takeP (i := 6) (j := 34) (v := .bool false) 9 [28, 27, 21, 20, 14, 13, 8, 7] rfl rfl (by kernel_rfl) (by kernel_rfl) (by kernel_rfl) (fun _ _ _ h => h) (by kernel_rfl) (Ext.stable _) hCD (yieldsU_val rfl (fun u hu => by go_simp)) ?_
  refine anyU_takeP (i := 7) (j := 34) (v := .bool false) 10 [28, 27, 21, 20, 14, 13, 8] rfl rfl (by kernel_rfl) (by kernel_rfl) (by kernel_rfl) (fun _ _ _ h => h) (by kernel_rfl) (Ext.stable _) hCD (yieldsU_val rfl (fun u hu => by go_simp)) ?_
  refine anyU_takeP (i := 8) (j := 34) (v := .bool false) 11 [28, 27, 21, 20, 14, 13] rfl rfl (by kernel_rfl) (by kernel_rfl) (by kernel_rfl) (fun _ _ _ h => h) (by kernel_rfl) (Ext.stable _) hCD (yieldsU_val rfl (fun u hu => by go_simp)) ?_
  simp only [Act.put, List.setIfInBounds_toArray, List.set_cons_succ, List.set_cons_zero]
  refine anyU_takeP (i := 9) (j := 34) (v := .pointer (some ⟨w.heap.size, 1, none⟩)) 12 [28, 27, 21, 20, 14, 11, 10] rfl rfl (by kernel_rfl) (by kernel_rfl) (by kernel_rfl) (fun _ _ _ h => h) (by kernel_rfl) (Ext.stable _) hCD (yieldsU_val rfl (fun u hu => by go_simp)) ?_
  refine anyU_takeP (i := 10) (j := 34) (v := .int .i64 k) 13 [28, 27, 21, 20, 14, 11] rfl rfl (by kernel_rfl) (by kernel_rfl) (by kernel_rfl) (fun _ _ _ h => h) (by kernel_rfl) (Ext.stable _) hCD (yieldsU_val rfl (fun u hu => by obtain ⟨c0, c1, c2, c3⟩ := (X0.out.bel hu).ints; go_simp)) ?_
  refine anyU_takeP (i := 11) (j := 34) (v := .bool true) 14 [28, 27, 21, 20, 14] rfl rfl (by kernel_rfl) (by kernel_rfl) (by kernel_rfl) (fun _ _ _ h => h) (by kernel_rfl) (Ext.stable _) hCD (yieldsU_call rfl 63 _ _ rfl #[.int .i64 k] (by simp [Act.eval, Act.put]) (fun u => by go_simp) (fun u hu => by have q := rvalid_any k u; rw [hk.out] at q; exact q.mono fun e w' hh => ⟨hh.1, hh.2 ▸ Below.refl _ _⟩)) ?_
  refine anyU_takeP (i := 12) (j := 34) (v := .bool false) 15 [28, 27, 21, 20, 14, 13] rfl rfl (by kernel_rfl) (by kernel_rfl) (by kernel_rfl) (fun _ _ _ h => h) (by kernel_rfl) (Ext.stable _) hCD (yieldsU_val rfl (fun u hu => by go_simp)) ?_
  simp only [Act.put, List.setIfInBounds_toArray, List.set_cons_succ, List.set_cons_zero]
  refine anyU_takeP (i := 13) (j := 34) (v := .bool false) 16 [28, 27, 21, 20, 14] rfl rfl (by kernel_rfl) (by kernel_rfl) (by kernel_rfl) (fun _ _ _ h => h) (by kernel_rfl) (Ext.stable _) hCD (yieldsU_val rfl (fun u hu => by go_simp)) ?_
  refine anyU_takeP (i := 14) (j := 34) (v := .bool false) 17 [28, 27, 21, 20] rfl rfl (by kernel_rfl) (by kernel_rfl) (by kernel_rfl) (fun _ _ _ h => h) (by kernel_rfl) (Ext.stable _) hCD (yieldsU_val rfl (fun u hu => by go_simp)) ?_
  refine anyU_takeP (i := 15) (j := 34) (v := .pointer (some ⟨w.heap.size, 2, none⟩)) 18 [28, 27, 21, 18, 17, 16] rfl rfl (by kernel_rfl) (by kernel_rfl) (by kernel_rfl) (fun _ _ _ h => h) (by kernel_rfl) (Ext.stable _) hCD (yieldsU_val rfl (fun u hu => by go_simp)) ?_
  refine anyU_takeP (i := 16) (j := 34) (v := .pointer (some ⟨w.heap.size, 2, none⟩)) 19 [28, 27, 21, 18, 17] rfl rfl (by kernel_rfl) (by kernel_rfl) (by kernel_rfl) (fun _ _ _ h => h) (by kernel_rfl) (Ext.stable _) hCD (yieldsU_val rfl (fun u hu => by go_simp)) ?_
  refine anyU_takeP (i := 17) (j := 34) (v := .int .i64 a) 20 [28, 27, 21, 18] rfl rfl (by kernel_rfl) (by kernel_rfl) (by kernel_rfl) (fun _ _ _ h => h) (by kernel_rfl) (Ext.stable _) hCD (yieldsU_val rfl (fun u hu => by obtain ⟨c0, c1, c2, c3⟩ := (X0.out.bel hu).ints; go_simp)) ?_
  refine anyU_takeP (i := 18) (j := 34) (v := .bool true) 21 [28, 27, 21] rfl rfl (by kernel_rfl) (by kernel_rfl) (by kernel_rfl) (fun _ _ _ h => h) (by kernel_rfl) (Ext.stable _) hCD (yieldsU_call rfl 63 _ _ rfl #[.int .i64 a] (by simp [Act.eval, Act.put]) (fun u => by go_simp) (fun u hu => by have q := rvalid_any a u; rw [ha.out] at q; exact q.mono fun e w' hh => ⟨hh.1, hh.2 ▸ Below.refl _ _⟩)) ?_
  refine anyU_takeP (i := 19) (j := 34) (v := .bool false) 22 [28, 27, 21, 20] rfl rfl (by kernel_rfl) (by kernel_rfl) (by kernel_rfl) (fun _ _ _ h => h) (by kernel_rfl) (Ext.stable _) hCD (yieldsU_val rfl (fun u hu => by go_simp)) ?_
  simp only [Act.put, List.setIfInBounds_toArray, List.set_cons_succ, List.set_cons_zero]
  refine anyU_takeP (i := 20) (j := 34) (v := .bool false) 23 [28, 27, 21] rfl rfl (by kernel_rfl) (by kernel_rfl) (by kernel_rfl) (fun _ _ _ h => h) (by kernel_rfl) (Ext.stable _) hCD (yieldsU_val rfl (fun u hu => by go_simp)) ?_
  refine anyU_takeP (i := 21) (j := 34) (v := .bool false) 24 [28, 27] rfl rfl (by kernel_rfl) (by kernel_rfl) (by kernel_rfl) (fun _ _ _ h => h) (by kernel_rfl) (Ext.stable _) hCD (yieldsU_val rfl (fun u hu => by go_simp)) ?_
  refine anyU_takeP (i := 22) (j := 34) (v := .pointer (some ⟨w.heap.size, 2, none⟩)) 25 [28, 25, 24, 23] rfl rfl (by kernel_rfl) (by kernel_rfl) (by kernel_rfl) (fun _ _ _ h => h) (by kernel_rfl) (Ext.stable _) hCD (yieldsU_val rfl (fun u hu => by go_simp)) ?_
  refine anyU_takeP (i := 23) (j := 34) (v := .pointer (some ⟨w.heap.size, 3, none⟩)) 26 [28, 25, 24] rfl rfl (by kernel_rfl) (by kernel_rfl) (by kernel_rfl) (fun _ _ _ h => h) (by kernel_rfl) (Ext.stable _) hCD (yieldsU_val rfl (fun u hu => by go_simp)) ?_
  refine anyU_takeP (i := 24) (j := 34) (v := .int .i64 b) 27 [28, 25] rfl rfl (by kernel_rfl) (by kernel_rfl) (by kernel_rfl) (fun _ _ _ h => h) (by kernel_rfl) (Ext.stable _) hCD (yieldsU_val rfl (fun u hu => by obtain ⟨c0, c1, c2, c3⟩ := (X0.out.bel hu).ints; go_simp)) ?_
  refine anyU_takeP (i := 25) (j := 34) (v := .bool false) 28 [28] rfl rfl (by kernel_rfl) (by kernel_rfl) (by kernel_rfl) (fun _ _ _ h => h) (by kernel_rfl) (Ext.stable _) hCD (yieldsU_call rfl 63 _ _ rfl #[.int .i64 b] (by simp [Act.eval, Act.put]) (fun u => by go_simp) (fun u hu => by have q := rvalid_any b u; rw [hb.out] at q; exact q.mono fun e w' hh => ⟨hh.1, hh.2 ▸ Below.refl _ _⟩)) ?_
  refine anyU_takeP (i := 26) (j := 34) (v := .bool true) 29 [28, 27] rfl rfl (by kernel_rfl) (by kernel_rfl) (by kernel_rfl) (fun _ _ _ h => h) (by kernel_rfl) (Ext.stable _) hCD (yieldsU_val rfl (fun u hu => by go_simp)) ?_
  simp only [Act.put, List.setIfInBounds_toArray, List.set_cons_succ, List.set_cons_zero]
  refine anyU_takeP (i := 27) (j := 34) (v := .bool true) 30 [28] rfl rfl (by kernel_rfl) (by kernel_rfl) (by kernel_rfl) (fun _ _ _ h => h) (by kernel_rfl) (Ext.stable _) hCD (yieldsU_val rfl (fun u hu => by go_simp)) ?_
  refine anyU_takeP (i := 28) (j := 34) (v := .bool true) 31 [] rfl rfl (by kernel_rfl) (by kernel_rfl) (by kernel_rfl) (fun _ _ _ h => h) (by kernel_rfl) (Ext.stable _) hCD (yieldsU_val rfl (fun u hu => by go_simp)) ?_
  simp only [Act.put, List.setIfInBounds_toArray, List.set_cons_succ, List.set_cons_zero]
  refine anyU_takeP (i := 29) (j := 34) (v := undef) 32 [33, 30] rfl rfl (by kernel_rfl) (by kernel_rfl) (by kernel_rfl) (fun _ _ _ h => h) (by kernel_rfl) (Ext.stable _) hCD (.inr ⟨by rfl, rfl⟩) ?_
  refine anyU_takeP (i := 30) (j := 34) (v := undef) 33 [33] rfl rfl (by kernel_rfl) (by kernel_rfl) (by kernel_rfl) (fun _ _ _ h => h) (by kernel_rfl) (Ext.stable _) hCD (.inr ⟨by rfl, rfl⟩) ?_
  refine anyU_takeP (i := 31) (j := 34) (v := undef) 34 [33, 32] rfl rfl (by kernel_rfl) (by kernel_rfl) (by kernel_rfl) (fun _ _ _ h => h) (by kernel_rfl) (Ext.stable _) hCD (.inr ⟨by rfl, rfl⟩) ?_
  refine anyU_takeP (i := 32) (j := 34) (v := undef) 35 [33] rfl rfl (by kernel_rfl) (by kernel_rfl) (by kernel_rfl) (fun _ _ _ h => h) (by kernel_rfl) (Ext.stable _) hCD (.inr ⟨by rfl, rfl⟩) ?_
  refine anyU_takeP (i := 33) (j := 34) (v := undef) 36 [] rfl rfl (by kernel_rfl) (by kernel_rfl) (by kernel_rfl) (fun _ _ _ h => h) (by kernel_rfl) (Ext.stable _) hCD (.inr ⟨by rfl, rfl⟩) ?_
  simp only [Act.put, List.setIfInBounds_toArray, List.set_cons_succ, List.set_cons_zero]
  refine anyU_tail 34 [] rfl rfl (by decide) (by kernel_rfl) ?_
  intro u3 hu3
  simp only [Act.put, List.filterMap_cons, List.filterMap_nil, List.getElem?_cons_succ, List.getElem?_cons_zero]
  have B3 := Lib.hid (bel_trans B0.out hu3)
  clear hu3
  go_wp2_with fail
  go_ret
  exact ⟨rfl, B3.out⟩
set_option maxRecDepth 100000 in
set_option maxHeartbeats 4000000 in
theorem rcheck_y (l k a b : Int) (zs : List Int) (w : World) (hz : Hid (zs.length = 32)) (ln : Hid (0 ≤ l ∧ l < 64)) (hk : Hid (elB k = true)) (ha : Hid (elB a = true)) (hb : Hid (elB b = true)) (hok : Hid (∀ x ∈ intsA [l, k, a, b], x.ok)) (ds : List Int) (hd : Hid (IsTag l k a b ds)) (EQ : ∀ w, (Op.equalIn 10000 27 (.agg (bv zs).toArray) (.agg (bv ds).toArray)).run Tryz.prog w = .ok true w) :
    Calls Tryz.prog 57 #[.agg (rtv l k a b zs).toArray] w fun e w' => e = .returned (.int .i64 0) ∧ Below w.heap.size w w' := by
  have t1 : ¬ l < 0 := by have := ln.out; omega
  have t2 : ¬ l ≥ 64 := by have := ln.out; omega
  have t3 : l < 64 := by omega
  have X := Lib.hid (RBlk.box w l k a b hz.out)
  have BX := Lib.hid (bel_alloc1 w (.cells (rtv l k a b zs).toArray 29))
  go_enter Tryz.func57, Tryz.ntmps57
  go_upto_region 1 with fail
  refine wp_region_any (by kernel_rfl) ?_
  change wpAny _ _ _ _ _ _ _ (World.drew _)
  generalize hWD : World.drew _ = W
  have X0 := Lib.hid (show RBlk W w.heap.size l k a b zs by rw [← hWD]; exact X.out)
  have B0 := Lib.hid (show Below w.heap.size w W by rw [← hWD]; exact BX.out.drew)
  clear hWD X BX
  have hCD : ∀ u, Ext W u → Ext W u := fun u hu => hu
  refine region_U (D := Ext W) (Ext W) [34] (Ext.refl W) ?_
  refine anyU_takeP (i := 0) (j := 34) (v := .pointer (some ⟨w.heap.size, 0, none⟩)) 3 [28, 27, 21, 20, 14, 13, 8, 3, 2, 1] rfl rfl (by kernel_rfl) (by kernel_rfl) (by kernel_rfl) (fun _ _ _ h => h) (by kernel_rfl) (Ext.stable _) hCD (yieldsU_val rfl (fun u hu => by go_simp)) ?_
  refine anyU_takeP (i := 1) (j := 34) (v := .int .i64 l) 4 [28, 27, 21, 20, 14, 13, 8, 3, 2] rfl rfl (by kernel_rfl) (by kernel_rfl) (by kernel_rfl) (fun _ _ _ h => h) (by kernel_rfl) (Ext.stable _) hCD (yieldsU_val rfl (fun u hu => by obtain ⟨c0, c1, c2, c3⟩ := (X0.out.bel hu).ints; go_simp)) ?_
  refine anyU_takeP (i := 2) (j := 34) (v := .bool false) 5 [28, 27, 21, 20, 14, 13, 8, 3] rfl rfl (by kernel_rfl) (by kernel_rfl) (by kernel_rfl) (fun _ _ _ h => h) (by kernel_rfl) (Ext.stable _) hCD (yieldsU_val rfl (fun u hu => by go_simp)) ?_
  refine anyU_takeP (i := 3) (j := 34) (v := .bool false) 6 [28, 27, 21, 20, 14, 13, 8] rfl rfl (by kernel_rfl) (by kernel_rfl) (by kernel_rfl) (fun _ _ _ h => h) (by kernel_rfl) (Ext.stable _) hCD (yieldsU_val rfl (fun u hu => by go_simp)) ?_
  simp only [Act.put, List.setIfInBounds_toArray, List.set_cons_succ, List.set_cons_zero]
  refine anyU_takeP (i := 4) (j := 34) (v := .pointer (some ⟨w.heap.size, 0, none⟩)) 7 [28, 27, 21, 20, 14, 13, 8, 7, 6, 5] rfl rfl (by kernel_rfl) (by kernel_rfl) (by kernel_rfl) (fun _ _ _ h => h) (by kernel_rfl) (Ext.stable _) hCD (yieldsU_val rfl (fun u hu => by go_simp)) ?_
  refine anyU_takeP (i := 5) (j := 34) (v := .int .i64 l) 8 [28, 27, 21, 20, 14, 13, 8, 7, 6] rfl rfl (by kernel_rfl) (by kernel_rfl) (by kernel_rfl) (fun _ _ _ h => h) (by kernel_rfl) (Ext.stable _) hCD (yieldsU_val rfl (fun u hu => by obtain ⟨c0, c1, c2, c3⟩ := (X0.out.bel hu).ints; go_simp)) ?_
  refine anyU_takeP (i := 6) (j := 34) (v := .bool false) 9 [28, 27, 21, 20, 14, 13, 8, 7] rfl rfl (by kernel_rfl) (by kernel_rfl) (by kernel_rfl) (fun _ _ _ h => h) (by kernel_rfl) (Ext.stable _) hCD (yieldsU_val rfl (fun u hu => by go_simp)) ?_
  refine anyU_takeP (i := 7) (j := 34) (v := .bool false) 10 [28, 27, 21, 20, 14, 13, 8] rfl rfl (by kernel_rfl) (by kernel_rfl) (by kernel_rfl) (fun _ _ _ h => h) (by kernel_rfl) (Ext.stable _) hCD (yieldsU_val rfl (fun u hu => by go_simp)) ?_
  refine anyU_takeP (i := 8) (j := 34) (v := .bool false) 11 [28, 27, 21, 20, 14, 13] rfl rfl (by kernel_rfl) (by kernel_rfl) (by kernel_rfl) (fun _ _ _ h => h) (by kernel_rfl) (Ext.stable _) hCD (yieldsU_val rfl (fun u hu => by go_simp)) ?_
  simp only [Act.put, List.setIfInBounds_toArray, List.set_cons_succ, List.set_cons_zero]
  refine anyU_takeP (i := 9) (j := 34) (v := .pointer (some ⟨w.heap.size, 1, none⟩)) 12 [28, 27, 21, 20, 14, 11, 10] rfl rfl (by kernel_rfl) (by kernel_rfl) (by kernel_rfl) (fun _ _ _ h => h) (by kernel_rfl) (Ext.stable _) hCD (yieldsU_val rfl (fun u hu => by go_simp)) ?_
  refine anyU_takeP (i := 10) (j := 34) (v := .int .i64 k) 13 [28, 27, 21, 20, 14, 11] rfl rfl (by kernel_rfl) (by kernel_rfl) (by kernel_rfl) (fun _ _ _ h => h) (by kernel_rfl) (Ext.stable _) hCD (yieldsU_val rfl (fun u hu => by obtain ⟨c0, c1, c2, c3⟩ := (X0.out.bel hu).ints; go_simp)) ?_
  refine anyU_takeP (i := 11) (j := 34) (v := .bool true) 14 [28, 27, 21, 20, 14] rfl rfl (by kernel_rfl) (by kernel_rfl) (by kernel_rfl) (fun _ _ _ h => h) (by kernel_rfl) (Ext.stable _) hCD (yieldsU_call rfl 63 _ _ rfl #[.int .i64 k] (by simp [Act.eval, Act.put]) (fun u => by go_simp) (fun u hu => by have q := rvalid_any k u; rw [hk.out] at q; exact q.mono fun e w' hh => ⟨hh.1, hh.2 ▸ Below.refl _ _⟩)) ?_
  refine anyU_takeP (i := 12) (j := 34) (v := .bool false) 15 [28, 27, 21, 20, 14, 13] rfl rfl (by kernel_rfl) (by kernel_rfl) (by kernel_rfl) (fun _ _ _ h => h) (by kernel_rfl) (Ext.stable _) hCD (yieldsU_val rfl (fun u hu => by go_simp)) ?_
  simp only [Act.put, List.setIfInBounds_toArray, List.set_cons_succ, List.set_cons_zero]
  refine anyU_takeP (i := 13) (j := 34) (v := .bool false) 16 [28, 27, 21, 20, 14] rfl rfl (by kernel_rfl) (by kernel_rfl) (by kernel_rfl) (fun _ _ _ h => h) (by kernel_rfl) (Ext.stable _) hCD (yieldsU_val rfl (fun u hu => by go_simp)) ?_
  refine anyU_takeP (i := 14) (j := 34) (v := .bool false) 17 [28, 27, 21, 20] rfl rfl (by kernel_rfl) (by kernel_rfl) (by kernel_rfl) (fun _ _ _ h => h) (by kernel_rfl) (Ext.stable _) hCD (yieldsU_val rfl (fun u hu => by go_simp)) ?_
  refine anyU_takeP (i := 15) (j := 34) (v := .pointer (some ⟨w.heap.size, 2, none⟩)) 18 [28, 27, 21, 18, 17, 16] rfl rfl (by kernel_rfl) (by kernel_rfl) (by kernel_rfl) (fun _ _ _ h => h) (by kernel_rfl) (Ext.stable _) hCD (yieldsU_val rfl (fun u hu => by go_simp)) ?_
  refine anyU_takeP (i := 16) (j := 34) (v := .pointer (some ⟨w.heap.size, 2, none⟩)) 19 [28, 27, 21, 18, 17] rfl rfl (by kernel_rfl) (by kernel_rfl) (by kernel_rfl) (fun _ _ _ h => h) (by kernel_rfl) (Ext.stable _) hCD (yieldsU_val rfl (fun u hu => by go_simp)) ?_
  refine anyU_takeP (i := 17) (j := 34) (v := .int .i64 a) 20 [28, 27, 21, 18] rfl rfl (by kernel_rfl) (by kernel_rfl) (by kernel_rfl) (fun _ _ _ h => h) (by kernel_rfl) (Ext.stable _) hCD (yieldsU_val rfl (fun u hu => by obtain ⟨c0, c1, c2, c3⟩ := (X0.out.bel hu).ints; go_simp)) ?_
  refine anyU_takeP (i := 18) (j := 34) (v := .bool true) 21 [28, 27, 21] rfl rfl (by kernel_rfl) (by kernel_rfl) (by kernel_rfl) (fun _ _ _ h => h) (by kernel_rfl) (Ext.stable _) hCD (yieldsU_call rfl 63 _ _ rfl #[.int .i64 a] (by simp [Act.eval, Act.put]) (fun u => by go_simp) (fun u hu => by have q := rvalid_any a u; rw [ha.out] at q; exact q.mono fun e w' hh => ⟨hh.1, hh.2 ▸ Below.refl _ _⟩)) ?_
  refine anyU_takeP (i := 19) (j := 34) (v := .bool false) 22 [28, 27, 21, 20] rfl rfl (by kernel_rfl) (by kernel_rfl) (by kernel_rfl) (fun _ _ _ h => h) (by kernel_rfl) (Ext.stable _) hCD (yieldsU_val rfl (fun u hu => by go_simp)) ?_
  simp only [Act.put, List.setIfInBounds_toArray, List.set_cons_succ, List.set_cons_zero]
  refine anyU_takeP (i := 20) (j := 34) (v := .bool false) 23 [28, 27, 21] rfl rfl (by kernel_rfl) (by kernel_rfl) (by kernel_rfl) (fun _ _ _ h => h) (by kernel_rfl) (Ext.stable _) hCD (yieldsU_val rfl (fun u hu => by go_simp)) ?_
  refine anyU_takeP (i := 21) (j := 34) (v := .bool false) 24 [28, 27] rfl rfl (by kernel_rfl) (by kernel_rfl) (by kernel_rfl) (fun _ _ _ h => h) (by kernel_rfl) (Ext.stable _) hCD (yieldsU_val rfl (fun u hu => by go_simp)) ?_
  refine anyU_takeP (i := 22) (j := 34) (v := .pointer (some ⟨w.heap.size, 2, none⟩)) 25 [28, 25, 24, 23] rfl rfl (by kernel_rfl) (by kernel_rfl) (by kernel_rfl) (fun _ _ _ h => h) (by kernel_rfl) (Ext.stable _) hCD (yieldsU_val rfl (fun u hu => by go_simp)) ?_
  refine anyU_takeP (i := 23) (j := 34) (v := .pointer (some ⟨w.heap.size, 3, none⟩)) 26 [28, 25, 24] rfl rfl (by kernel_rfl) (by kernel_rfl) (by kernel_rfl) (fun _ _ _ h => h) (by kernel_rfl) (Ext.stable _) hCD (yieldsU_val rfl (fun u hu => by go_simp)) ?_
  refine anyU_takeP (i := 24) (j := 34) (v := .int .i64 b) 27 [28, 25] rfl rfl (by kernel_rfl) (by kernel_rfl) (by kernel_rfl) (fun _ _ _ h => h) (by kernel_rfl) (Ext.stable _) hCD (yieldsU_val rfl (fun u hu => by obtain ⟨c0, c1, c2, c3⟩ := (X0.out.bel hu).ints; go_simp)) ?_
  refine anyU_takeP (i := 25) (j := 34) (v := .bool true) 28 [28] rfl rfl (by kernel_rfl) (by kernel_rfl) (by kernel_rfl) (fun _ _ _ h => h) (by kernel_rfl) (Ext.stable _) hCD (yieldsU_call rfl 63 _ _ rfl #[.int .i64 b] (by simp [Act.eval, Act.put]) (fun u => by go_simp) (fun u hu => by have q := rvalid_any b u; rw [hb.out] at q; exact q.mono fun e w' hh => ⟨hh.1, hh.2 ▸ Below.refl _ _⟩)) ?_
  refine anyU_takeP (i := 26) (j := 34) (v := .bool false) 29 [28, 27] rfl rfl (by kernel_rfl) (by kernel_rfl) (by kernel_rfl) (fun _ _ _ h => h) (by kernel_rfl) (Ext.stable _) hCD (yieldsU_val rfl (fun u hu => by go_simp)) ?_
  simp only [Act.put, List.setIfInBounds_toArray, List.set_cons_succ, List.set_cons_zero]
  refine anyU_takeP (i := 27) (j := 34) (v := .bool false) 30 [28] rfl rfl (by kernel_rfl) (by kernel_rfl) (by kernel_rfl) (fun _ _ _ h => h) (by kernel_rfl) (Ext.stable _) hCD (yieldsU_val rfl (fun u hu => by go_simp)) ?_
  refine anyU_takeP (i := 28) (j := 34) (v := .bool false) 31 [] rfl rfl (by kernel_rfl) (by kernel_rfl) (by kernel_rfl) (fun _ _ _ h => h) (by kernel_rfl) (Ext.stable _) hCD (yieldsU_val rfl (fun u hu => by go_simp)) ?_
  simp only [Act.put, List.setIfInBounds_toArray, List.set_cons_succ, List.set_cons_zero]
  refine anyU_takeP (i := 29) (j := 34) (v := .pointer (some ⟨w.heap.size, 4, none⟩)) 32 [33, 30] rfl rfl (by kernel_rfl) (by kernel_rfl) (by kernel_rfl) (fun _ _ _ h => h) (by kernel_rfl) (Ext.stable _) hCD (yieldsU_val rfl (fun u hu => by go_simp)) ?_
  refine anyU_takeP (i := 30) (j := 34) (v := .agg (bv zs).toArray) 33 [33] rfl rfl (by kernel_rfl) (by kernel_rfl) (by kernel_rfl) (fun _ _ _ h => h) (by kernel_rfl) (Ext.stable _) hCD (yieldsU_of_C (yields_loadM (by rfl) (.tmp 32) rfl w.heap.size 4 rfl zs hz.out (fun u hu => (X0.out.bel hu).tag))) ?_
  refine anyU_takeP (i := 31) (j := 34) (v := .agg (rtv l k a b zs).toArray) 34 [33, 32] rfl rfl (by kernel_rfl) (by kernel_rfl) (by kernel_rfl) (fun _ _ _ h => h) (by kernel_rfl) (Ext.stable _) hCD (yieldsU_of_C (yields_loadR (by rfl) (.tmp 1) rfl w.heap.size rfl l k a b zs hz.out (fun u hu => X0.out.bel hu))) ?_
  refine anyU_takeP (i := 32) (j := 34) (v := .agg (bv ds).toArray) 35 [33] rfl rfl (by kernel_rfl) (by kernel_rfl) (by kernel_rfl) (fun _ _ _ h => h) (by kernel_rfl) (Ext.stable _) hCD (yieldsU_call rfl 84 _ _ rfl #[.agg (rtv l k a b zs).toArray] (by simp [Act.eval, Act.put]) (fun u => by go_simp) (fun u hu => rtag_is l k a b zs u hz hok ds hd)) ?_
  refine anyU_takeP (i := 33) (j := 34) (v := .bool false) 36 [] rfl rfl (by kernel_rfl) (by kernel_rfl) (by kernel_rfl) (fun _ _ _ h => h) (by kernel_rfl) (Ext.stable _) hCD (yieldsU_val rfl (fun u hu => by go_simp)) ?_
  simp only [Act.put, List.setIfInBounds_toArray, List.set_cons_succ, List.set_cons_zero]
  refine anyU_tail 34 [] rfl rfl (by decide) (by kernel_rfl) ?_
  intro u3 hu3
  simp only [Act.put, List.filterMap_cons, List.filterMap_nil, List.getElem?_cons_succ, List.getElem?_cons_zero]
  have B3 := Lib.hid (bel_trans B0.out hu3)
  clear hu3
  go_wp2_with fail
  go_ret
  exact ⟨rfl, B3.out⟩
set_option maxRecDepth 100000 in
set_option maxHeartbeats 4000000 in
theorem rcheck_d (l k a b : Int) (zs : List Int) (w : World) (hz : Hid (zs.length = 32)) (ln : Hid (0 ≤ l ∧ l < 64)) (hk : Hid (elB k = true)) (ha : Hid (elB a = true)) (hb : Hid (elB b = true)) (hok : Hid (∀ x ∈ intsA [l, k, a, b], x.ok)) (ds : List Int) (hd : Hid (IsTag l k a b ds)) (EQ : ∀ w, (Op.equalIn 10000 27 (.agg (bv zs).toArray) (.agg (bv ds).toArray)).run Tryz.prog w = .ok false w) :
    Calls Tryz.prog 57 #[.agg (rtv l k a b zs).toArray] w fun e w' => e = .returned (.int .i64 160) ∧ Below w.heap.size w w' := by
  have t1 : ¬ l < 0 := by have := ln.out; omega
  have t2 : ¬ l ≥ 64 := by have := ln.out; omega
  have t3 : l < 64 := by omega
  have X := Lib.hid (RBlk.box w l k a b hz.out)
  have BX := Lib.hid (bel_alloc1 w (.cells (rtv l k a b zs).toArray 29))
  go_enter Tryz.func57, Tryz.ntmps57
  go_upto_region 1 with fail
  refine wp_region_any (by kernel_rfl) ?_
  change wpAny _ _ _ _ _ _ _ (World.drew _)
  generalize hWD : World.drew _ = W
  have X0 := Lib.hid (show RBlk W w.heap.size l k a b zs by rw [← hWD]; exact X.out)
  have B0 := Lib.hid (show Below w.heap.size w W by rw [← hWD]; exact BX.out.drew)
  clear hWD X BX
  have hCD : ∀ u, Ext W u → Ext W u := fun u hu => hu
  refine region_U (D := Ext W) (Ext W) [34] (Ext.refl W) ?_
  refine anyU_takeP (i := 0) (j := 34) (v := .pointer (some ⟨w.heap.size, 0, none⟩)) 3 [28, 27, 21, 20, 14, 13, 8, 3, 2, 1] rfl rfl (by kernel_rfl) (by kernel_rfl) (by kernel_rfl) (fun _ _ _ h => h) (by kernel_rfl) (Ext.stable _) hCD (yieldsU_val rfl (fun u hu => by go_simp)) ?_
  refine anyU_takeP (i := 1) (j := 34) (v := .int .i64 l) 4 [28, 27, 21, 20, 14, 13, 8, 3, 2] rfl rfl (by kernel_rfl) (by kernel_rfl) (by kernel_rfl) (fun _ _ _ h => h) (by kernel_rfl) (Ext.stable _) hCD (yieldsU_val rfl (fun u hu => by obtain ⟨c0, c1, c2, c3⟩ := (X0.out.bel hu).ints; go_simp)) ?_
  refine anyU_takeP (i := 2) (j := 34) (v := .bool false) 5 [28, 27, 21, 20, 14, 13, 8, 3] rfl rfl (by kernel_rfl) (by kernel_rfl) (by kernel_rfl) (fun _ _ _ h => h) (by kernel_rfl) (Ext.stable _) hCD (yieldsU_val rfl (fun u hu => by go_simp)) ?_
  refine anyU_takeP (i := 3) (j := 34) (v := .bool false) 6 [28, 27, 21, 20, 14, 13, 8] rfl rfl (by kernel_rfl) (by kernel_rfl) (by kernel_rfl) (fun _ _ _ h => h) (by kernel_rfl) (Ext.stable _) hCD (yieldsU_val rfl (fun u hu => by go_simp)) ?_
  simp only [Act.put, List.setIfInBounds_toArray, List.set_cons_succ, List.set_cons_zero]
  refine anyU_takeP (i := 4) (j := 34) (v := .pointer (some ⟨w.heap.size, 0, none⟩)) 7 [28, 27, 21, 20, 14, 13, 8, 7, 6, 5] rfl rfl (by kernel_rfl) (by kernel_rfl) (by kernel_rfl) (fun _ _ _ h => h) (by kernel_rfl) (Ext.stable _) hCD (yieldsU_val rfl (fun u hu => by go_simp)) ?_
  refine anyU_takeP (i := 5) (j := 34) (v := .int .i64 l) 8 [28, 27, 21, 20, 14, 13, 8, 7, 6] rfl rfl (by kernel_rfl) (by kernel_rfl) (by kernel_rfl) (fun _ _ _ h => h) (by kernel_rfl) (Ext.stable _) hCD (yieldsU_val rfl (fun u hu => by obtain ⟨c0, c1, c2, c3⟩ := (X0.out.bel hu).ints; go_simp)) ?_
  refine anyU_takeP (i := 6) (j := 34) (v := .bool false) 9 [28, 27, 21, 20, 14, 13, 8, 7] rfl rfl (by kernel_rfl) (by kernel_rfl) (by kernel_rfl) (fun _ _ _ h => h) (by kernel_rfl) (Ext.stable _) hCD (yieldsU_val rfl (fun u hu => by go_simp)) ?_
  refine anyU_takeP (i := 7) (j := 34) (v := .bool false) 10 [28, 27, 21, 20, 14, 13, 8] rfl rfl (by kernel_rfl) (by kernel_rfl) (by kernel_rfl) (fun _ _ _ h => h) (by kernel_rfl) (Ext.stable _) hCD (yieldsU_val rfl (fun u hu => by go_simp)) ?_
  refine anyU_takeP (i := 8) (j := 34) (v := .bool false) 11 [28, 27, 21, 20, 14, 13] rfl rfl (by kernel_rfl) (by kernel_rfl) (by kernel_rfl) (fun _ _ _ h => h) (by kernel_rfl) (Ext.stable _) hCD (yieldsU_val rfl (fun u hu => by go_simp)) ?_
  simp only [Act.put, List.setIfInBounds_toArray, List.set_cons_succ, List.set_cons_zero]
  refine anyU_takeP (i := 9) (j := 34) (v := .pointer (some ⟨w.heap.size, 1, none⟩)) 12 [28, 27, 21, 20, 14, 11, 10] rfl rfl (by kernel_rfl) (by kernel_rfl) (by kernel_rfl) (fun _ _ _ h => h) (by kernel_rfl) (Ext.stable _) hCD (yieldsU_val rfl (fun u hu => by go_simp)) ?_
  refine anyU_takeP (i := 10) (j := 34) (v := .int .i64 k) 13 [28, 27, 21, 20, 14, 11] rfl rfl (by kernel_rfl) (by kernel_rfl) (by kernel_rfl) (fun _ _ _ h => h) (by kernel_rfl) (Ext.stable _) hCD (yieldsU_val rfl (fun u hu => by obtain ⟨c0, c1, c2, c3⟩ := (X0.out.bel hu).ints; go_simp)) ?_
  refine anyU_takeP (i := 11) (j := 34) (v := .bool true) 14 [28, 27, 21, 20, 14] rfl rfl (by kernel_rfl) (by kernel_rfl) (by kernel_rfl) (fun _ _ _ h => h) (by kernel_rfl) (Ext.stable _) hCD (yieldsU_call rfl 63 _ _ rfl #[.int .i64 k] (by simp [Act.eval, Act.put]) (fun u => by go_simp) (fun u hu => by have q := rvalid_any k u; rw [hk.out] at q; exact q.mono fun e w' hh => ⟨hh.1, hh.2 ▸ Below.refl _ _⟩)) ?_
  refine anyU_takeP (i := 12) (j := 34) (v := .bool false) 15 [28, 27, 21, 20, 14, 13] rfl rfl (by kernel_rfl) (by kernel_rfl) (by kernel_rfl) (fun _ _ _ h => h) (by kernel_rfl) (Ext.stable _) hCD (yieldsU_val rfl (fun u hu => by go_simp)) ?_
  simp only [Act.put, List.setIfInBounds_toArray, List.set_cons_succ, List.set_cons_zero]
  refine anyU_takeP (i := 13) (j := 34) (v := .bool false) 16 [28, 27, 21, 20, 14] rfl rfl (by kernel_rfl) (by kernel_rfl) (by kernel_rfl) (fun _ _ _ h => h) (by kernel_rfl) (Ext.stable _) hCD (yieldsU_val rfl (fun u hu => by go_simp)) ?_
  refine anyU_takeP (i := 14) (j := 34) (v := .bool false) 17 [28, 27, 21, 20] rfl rfl (by kernel_rfl) (by kernel_rfl) (by kernel_rfl) (fun _ _ _ h => h) (by kernel_rfl) (Ext.stable _) hCD (yieldsU_val rfl (fun u hu => by go_simp)) ?_
  refine anyU_takeP (i := 15) (j := 34) (v := .pointer (some ⟨w.heap.size, 2, none⟩)) 18 [28, 27, 21, 18, 17, 16] rfl rfl (by kernel_rfl) (by kernel_rfl) (by kernel_rfl) (fun _ _ _ h => h) (by kernel_rfl) (Ext.stable _) hCD (yieldsU_val rfl (fun u hu => by go_simp)) ?_
  refine anyU_takeP (i := 16) (j := 34) (v := .pointer (some ⟨w.heap.size, 2, none⟩)) 19 [28, 27, 21, 18, 17] rfl rfl (by kernel_rfl) (by kernel_rfl) (by kernel_rfl) (fun _ _ _ h => h) (by kernel_rfl) (Ext.stable _) hCD (yieldsU_val rfl (fun u hu => by go_simp)) ?_
  refine anyU_takeP (i := 17) (j := 34) (v := .int .i64 a) 20 [28, 27, 21, 18] rfl rfl (by kernel_rfl) (by kernel_rfl) (by kernel_rfl) (fun _ _ _ h => h) (by kernel_rfl) (Ext.stable _) hCD (yieldsU_val rfl (fun u hu => by obtain ⟨c0, c1, c2, c3⟩ := (X0.out.bel hu).ints; go_simp)) ?_
  refine anyU_takeP (i := 18) (j := 34) (v := .bool true) 21 [28, 27, 21] rfl rfl (by kernel_rfl) (by kernel_rfl) (by kernel_rfl) (fun _ _ _ h => h) (by kernel_rfl) (Ext.stable _) hCD (yieldsU_call rfl 63 _ _ rfl #[.int .i64 a] (by simp [Act.eval, Act.put]) (fun u => by go_simp) (fun u hu => by have q := rvalid_any a u; rw [ha.out] at q; exact q.mono fun e w' hh => ⟨hh.1, hh.2 ▸ Below.refl _ _⟩)) ?_
  refine anyU_takeP (i := 19) (j := 34) (v := .bool false) 22 [28, 27, 21, 20] rfl rfl (by kernel_rfl) (by kernel_rfl) (by kernel_rfl) (fun _ _ _ h => h) (by kernel_rfl) (Ext.stable _) hCD (yieldsU_val rfl (fun u hu => by go_simp)) ?_
  simp only [Act.put, List.setIfInBounds_toArray, List.set_cons_succ, List.set_cons_zero]
  refine anyU_takeP (i := 20) (j := 34) (v := .bool false) 23 [28, 27, 21] rfl rfl (by kernel_rfl) (by kernel_rfl) (by kernel_rfl) (fun _ _ _ h => h) (by kernel_rfl) (Ext.stable _) hCD (yieldsU_val rfl (fun u hu => by go_simp)) ?_
  refine anyU_takeP (i := 21) (j := 34) (v := .bool false) 24 [28, 27] rfl rfl (by kernel_rfl) (by kernel_rfl) (by kernel_rfl) (fun _ _ _ h => h) (by kernel_rfl) (Ext.stable _) hCD (yieldsU_val rfl (fun u hu => by go_simp)) ?_
  refine anyU_takeP (i := 22) (j := 34) (v := .pointer (some ⟨w.heap.size, 2, none⟩)) 25 [28, 25, 24, 23] rfl rfl (by kernel_rfl) (by kernel_rfl) (by kernel_rfl) (fun _ _ _ h => h) (by kernel_rfl) (Ext.stable _) hCD (yieldsU_val rfl (fun u hu => by go_simp)) ?_
  refine anyU_takeP (i := 23) (j := 34) (v := .pointer (some ⟨w.heap.size, 3, none⟩)) 26 [28, 25, 24] rfl rfl (by kernel_rfl) (by kernel_rfl) (by kernel_rfl) (fun _ _ _ h => h) (by kernel_rfl) (Ext.stable _) hCD (yieldsU_val rfl (fun u hu => by go_simp)) ?_
  refine anyU_takeP (i := 24) (j := 34) (v := .int .i64 b) 27 [28, 25] rfl rfl (by kernel_rfl) (by kernel_rfl) (by kernel_rfl) (fun _ _ _ h => h) (by kernel_rfl) (Ext.stable _) hCD (yieldsU_val rfl (fun u hu => by obtain ⟨c0, c1, c2, c3⟩ := (X0.out.bel hu).ints; go_simp)) ?_
  refine anyU_takeP (i := 25) (j := 34) (v := .bool true) 28 [28] rfl rfl (by kernel_rfl) (by kernel_rfl) (by kernel_rfl) (fun _ _ _ h => h) (by kernel_rfl) (Ext.stable _) hCD (yieldsU_call rfl 63 _ _ rfl #[.int .i64 b] (by simp [Act.eval, Act.put]) (fun u => by go_simp) (fun u hu => by have q := rvalid_any b u; rw [hb.out] at q; exact q.mono fun e w' hh => ⟨hh.1, hh.2 ▸ Below.refl _ _⟩)) ?_
  refine anyU_takeP (i := 26) (j := 34) (v := .bool false) 29 [28, 27] rfl rfl (by kernel_rfl) (by kernel_rfl) (by kernel_rfl) (fun _ _ _ h => h) (by kernel_rfl) (Ext.stable _) hCD (yieldsU_val rfl (fun u hu => by go_simp)) ?_
  simp only [Act.put, List.setIfInBounds_toArray, List.set_cons_succ, List.set_cons_zero]
  refine anyU_takeP (i := 27) (j := 34) (v := .bool false) 30 [28] rfl rfl (by kernel_rfl) (by kernel_rfl) (by kernel_rfl) (fun _ _ _ h => h) (by kernel_rfl) (Ext.stable _) hCD (yieldsU_val rfl (fun u hu => by go_simp)) ?_
  refine anyU_takeP (i := 28) (j := 34) (v := .bool false) 31 [] rfl rfl (by kernel_rfl) (by kernel_rfl) (by kernel_rfl) (fun _ _ _ h => h) (by kernel_rfl) (Ext.stable _) hCD (yieldsU_val rfl (fun u hu => by go_simp)) ?_
  simp only [Act.put, List.setIfInBounds_toArray, List.set_cons_succ, List.set_cons_zero]
  refine anyU_takeP (i := 29) (j := 34) (v := .pointer (some ⟨w.heap.size, 4, none⟩)) 32 [33, 30] rfl rfl (by kernel_rfl) (by kernel_rfl) (by kernel_rfl) (fun _ _ _ h => h) (by kernel_rfl) (Ext.stable _) hCD (yieldsU_val rfl (fun u hu => by go_simp)) ?_
  refine anyU_takeP (i := 30) (j := 34) (v := .agg (bv zs).toArray) 33 [33] rfl rfl (by kernel_rfl) (by kernel_rfl) (by kernel_rfl) (fun _ _ _ h => h) (by kernel_rfl) (Ext.stable _) hCD (yieldsU_of_C (yields_loadM (by rfl) (.tmp 32) rfl w.heap.size 4 rfl zs hz.out (fun u hu => (X0.out.bel hu).tag))) ?_
  refine anyU_takeP (i := 31) (j := 34) (v := .agg (rtv l k a b zs).toArray) 34 [33, 32] rfl rfl (by kernel_rfl) (by kernel_rfl) (by kernel_rfl) (fun _ _ _ h => h) (by kernel_rfl) (Ext.stable _) hCD (yieldsU_of_C (yields_loadR (by rfl) (.tmp 1) rfl w.heap.size rfl l k a b zs hz.out (fun u hu => X0.out.bel hu))) ?_
  refine anyU_takeP (i := 32) (j := 34) (v := .agg (bv ds).toArray) 35 [33] rfl rfl (by kernel_rfl) (by kernel_rfl) (by kernel_rfl) (fun _ _ _ h => h) (by kernel_rfl) (Ext.stable _) hCD (yieldsU_call rfl 84 _ _ rfl #[.agg (rtv l k a b zs).toArray] (by simp [Act.eval, Act.put]) (fun u => by go_simp) (fun u hu => rtag_is l k a b zs u hz hok ds hd)) ?_
  refine anyU_takeP (i := 33) (j := 34) (v := .bool true) 36 [] rfl rfl (by kernel_rfl) (by kernel_rfl) (by kernel_rfl) (fun _ _ _ h => h) (by kernel_rfl) (Ext.stable _) hCD (yieldsU_val rfl (fun u hu => by go_simp)) ?_
  simp only [Act.put, List.setIfInBounds_toArray, List.set_cons_succ, List.set_cons_zero]
  refine anyU_tail 34 [] rfl rfl (by decide) (by kernel_rfl) ?_
  intro u3 hu3
  simp only [Act.put, List.filterMap_cons, List.filterMap_nil, List.getElem?_cons_succ, List.getElem?_cons_zero]
  have B3 := Lib.hid (bel_trans B0.out hu3)
  clear hu3
  go_wp2_with fail
  go_ret
  exact ⟨rfl, B3.out⟩
theorem rcheck_any (l k a b : Int) (zs : List Int) (E : Int) (w : World) (hz : Hid (zs.length = 32)) (hE : Hid (IsRC l k a b zs E)) :
    Calls Tryz.prog 57 #[.agg (rtv l k a b zs).toArray] w fun e w' => e = .returned (.int .i64 E) ∧ Below w.heap.size w w' := by
  rcases hE.out with ⟨h, rfl⟩ | ⟨h, ds, hd, hh⟩
  · cases h1 : lineB l with
    | false =>
      rcases Int.lt_or_le l 0 with hn | hn
      · exact rcheck_neg l k a b zs w hz (Lib.hid hn)
      · refine rcheck_big l k a b zs w hz (Lib.hid ?_)
        rcases Int.lt_or_le l 64 with hm | hm
        · rw [lineB_iff.2 ⟨hn, hm⟩] at h1; cases h1
        · exact hm
    | true =>
      have hl := Lib.hid (lineB_iff.1 h1)
      cases h2 : elB k with
      | false => exact rcheck_n1 l k a b zs w hz hl (Lib.hid h2)
      | true => cases h3 : elB a with
        | false => exact rcheck_n2 l k a b zs w hz hl (Lib.hid h2) (Lib.hid h3)
        | true => cases h4 : elB b with
          | false => exact rcheck_n3 l k a b zs w hz hl (Lib.hid h2) (Lib.hid h3) (Lib.hid h4)
          | true => exact absurd (partB_iff.2 ⟨h1, h2, h3, h4⟩) (by rw [h]; simp)
  · obtain ⟨h1, h2, h3, h4⟩ := partB_iff.1 h
    have hl := Lib.hid (lineB_iff.1 h1)
    rcases hh with ⟨rfl, rfl⟩ | ⟨hne, rfl⟩
    · exact rcheck_y l k a b zs w hz hl (Lib.hid h2) (Lib.hid h3) (Lib.hid h4) (Lib.hid (part_ok h)) zs (Lib.hid hd) (fun w => by rw [eqDig_any zs zs hz.out hz.out w]; simp)
    · exact rcheck_d l k a b zs w hz hl (Lib.hid h2) (Lib.hid h3) (Lib.hid h4) (Lib.hid (part_ok h)) ds (Lib.hid hd) (fun w => by rw [eqDig_any zs ds hz.out hd.len w]; simp [hne])
end Go.Proofs.YtpjobllfiimdkaaGreatDoor
