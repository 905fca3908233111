/- Package onetime: Check. -/
import Derived.Test.YtpjobllfiimdkaaGreatDoorOntZB
import Derived.Test.YtpjobllfiimdkaaGreatDoorRegP
namespace Go.Proofs.YtpjobllfiimdkaaGreatDoor
open Go.RowKit
set_option linter.unusedVariables false
set_option linter.unusedSimpArgs false

/-- are the four numbers of a return address right? -/
def partB (l k a b : Int) : Bool := lineB l && elB k && elB a && elB b
/-- what Check says -/
def IsRC (l k a b : Int) (zs : List Int) (E : Int) : Prop := (partB l k a b = false ∧ E = 160) ∨ (partB l k a b = true ∧ ∃ ds, IsTag l k a b ds ∧ ((zs = ds ∧ E = 0) ∨ (zs ≠ ds ∧ E = 160)))
theorem isRC (l k a b : Int) (zs : List Int) : ∃ E, IsRC l k a b zs E := by
  cases h : partB l k a b with
  | false => exact ⟨160, .inl ⟨h, rfl⟩⟩
  | true =>
    obtain ⟨ds, hd⟩ := isTag l k a b
    by_cases he : zs = ds
    · exact ⟨0, .inr ⟨h, ds, hd, .inl ⟨he, rfl⟩⟩⟩
    · exact ⟨160, .inr ⟨h, ds, hd, .inr ⟨he, rfl⟩⟩⟩
theorem partB_iff {l k a b : Int} : partB l k a b = true ↔ lineB l = true ∧ elB k = true ∧ elB a = true ∧ elB b = true := by unfold partB; simp [and_assoc]
theorem part_ok {l k a b : Int} (h : partB l k a b = true) : ∀ x ∈ intsA [l, k, a, b], x.ok := by
  obtain ⟨h1, h2, h3, h4⟩ := partB_iff.1 h
  have h1 := lineB_iff.1 h1
  have h2 := elB_iff h2
  have h3 := elB_iff h3
  have h4 := elB_iff h4
  exact ints_ok ⟨by omega, by omega⟩ ⟨by omega, by omega⟩ ⟨by omega, by omega⟩ ⟨by omega, by omega⟩
set_option maxRecDepth 100000 in
set_option maxHeartbeats 4000000 in
theorem ocheck_n0 (l k a b : Int) (zs : List Int) (w : World) (hz : Hid (zs.length = 32)) (hl : Hid (lineB l = false)) :
    Calls Tryz.prog 46 #[.agg (rtv l k a b zs).toArray] w fun e w' => e = .returned (.int .i64 160) ∧ Below w.heap.size w w' := by
  have X := Lib.hid (RBlk.box w l k a b hz.out)
  have BX := Lib.hid (bel_alloc1 w (.cells (rtv l k a b zs).toArray 29))
  go_enter Tryz.func46, Tryz.ntmps46
  go_upto_region 1 with fail
  refine wp_region_any (by kernel_rfl) ?_
  change wpAny _ _ _ _ _ _ _ (World.drew _)
  generalize hWD : World.drew _ = W
  have X0 := Lib.hid (show RBlk W w.heap.size l k a b zs by rw [← hWD]; exact X.out)
  have B0 := Lib.hid (show Below w.heap.size w W by rw [← hWD]; exact BX.out.drew)
  clear hWD X BX
  have hCD : ∀ u, Ext W u → Ext W u := fun u hu => hu
  refine region_U (D := Ext W) (Ext W) [30] (Ext.refl W) ?_
  refine anyU_takeP (i := 0) (j := 30) (v := .pointer (some ⟨w.heap.size, 0, none⟩)) 3 [24, 23, 17, 16, 10, 9, 4, 2, 1] rfl rfl (by kernel_rfl) (by kernel_rfl) (by kernel_rfl) (fun _ _ _ h => h) (by kernel_rfl) (Ext.stable _) hCD (yieldsU_val rfl (fun u hu => by go_simp)) ?_
  refine anyU_takeP (i := 1) (j := 30) (v := .int .i64 l) 4 [24, 23, 17, 16, 10, 9, 4, 2] rfl rfl (by kernel_rfl) (by kernel_rfl) (by kernel_rfl) (fun _ _ _ h => h) (by kernel_rfl) (Ext.stable _) hCD (yieldsU_val rfl (fun u hu => by obtain ⟨c0, c1, c2, c3⟩ := (X0.out.bel hu).ints; go_simp)) ?_
  refine anyU_takeP (i := 2) (j := 30) (v := .bool false) 5 [24, 23, 17, 16, 10, 9, 4] rfl rfl (by kernel_rfl) (by kernel_rfl) (by kernel_rfl) (fun _ _ _ h => h) (by kernel_rfl) (Ext.stable _) hCD (yieldsU_call rfl 24 _ _ rfl #[.int .i64 l] (by simp [Act.eval, Act.put]) (fun u => by go_simp) (fun u hu => by have h := ovline_any l u; rw [hl.out] at h; exact h.mono fun e w' hh => ⟨hh.1, hh.2 ▸ Below.refl _ _⟩)) ?_
  refine anyU_takeP (i := 3) (j := 30) (v := .bool true) 6 [24, 23, 17, 16, 10, 9, 4] rfl rfl (by kernel_rfl) (by kernel_rfl) (by kernel_rfl) (fun _ _ _ h => h) (by kernel_rfl) (Ext.stable _) hCD (yieldsU_val rfl (fun u hu => by go_simp)) ?_
  refine anyU_takeP (i := 4) (j := 30) (v := .bool true) 7 [24, 23, 17, 16, 10, 9] rfl rfl (by kernel_rfl) (by kernel_rfl) (by kernel_rfl) (fun _ _ _ h => h) (by kernel_rfl) (Ext.stable _) hCD (yieldsU_val rfl (fun u hu => by go_simp)) ?_
  simp only [Act.put, List.setIfInBounds_toArray, List.set_cons_succ, List.set_cons_zero]
  refine anyU_takeP (i := 5) (j := 30) (v := undef) 8 [24, 23, 17, 16, 10, 7, 6] rfl rfl (by kernel_rfl) (by kernel_rfl) (by kernel_rfl) (fun _ _ _ h => h) (by kernel_rfl) (Ext.stable _) hCD (.inr ⟨by rfl, rfl⟩) ?_
  refine anyU_takeP (i := 6) (j := 30) (v := undef) 9 [24, 23, 17, 16, 10, 7] rfl rfl (by kernel_rfl) (by kernel_rfl) (by kernel_rfl) (fun _ _ _ h => h) (by kernel_rfl) (Ext.stable _) hCD (.inr ⟨by rfl, rfl⟩) ?_
  refine anyU_takeP (i := 7) (j := 30) (v := undef) 10 [24, 23, 17, 16, 10] rfl rfl (by kernel_rfl) (by kernel_rfl) (by kernel_rfl) (fun _ _ _ h => h) (by kernel_rfl) (Ext.stable _) hCD (.inr ⟨by rfl, rfl⟩) ?_
  refine anyU_takeP (i := 8) (j := 30) (v := undef) 11 [24, 23, 17, 16, 10, 9] rfl rfl (by kernel_rfl) (by kernel_rfl) (by kernel_rfl) (fun _ _ _ h => h) (by kernel_rfl) (Ext.stable _) hCD (.inr ⟨by rfl, rfl⟩) ?_
  simp only [Act.put, List.setIfInBounds_toArray, List.set_cons_succ, List.set_cons_zero]
  refine anyU_takeP (i := 9) (j := 30) (v := .bool true) 12 [24, 23, 17, 16, 10] rfl rfl (by kernel_rfl) (by kernel_rfl) (by kernel_rfl) (fun _ _ _ h => h) (by kernel_rfl) (Ext.stable _) hCD (yieldsU_val rfl (fun u hu => by go_simp)) ?_
  refine anyU_takeP (i := 10) (j := 30) (v := .bool true) 13 [24, 23, 17, 16] rfl rfl (by kernel_rfl) (by kernel_rfl) (by kernel_rfl) (fun _ _ _ h => h) (by kernel_rfl) (Ext.stable _) hCD (yieldsU_val rfl (fun u hu => by go_simp)) ?_
  refine anyU_takeP (i := 11) (j := 30) (v := undef) 14 [24, 23, 17, 14, 13, 12] rfl rfl (by kernel_rfl) (by kernel_rfl) (by kernel_rfl) (fun _ _ _ h => h) (by kernel_rfl) (Ext.stable _) hCD (.inr ⟨by rfl, rfl⟩) ?_
  refine anyU_takeP (i := 12) (j := 30) (v := undef) 15 [24, 23, 17, 14, 13] rfl rfl (by kernel_rfl) (by kernel_rfl) (by kernel_rfl) (fun _ _ _ h => h) (by kernel_rfl) (Ext.stable _) hCD (.inr ⟨by rfl, rfl⟩) ?_
  refine anyU_takeP (i := 13) (j := 30) (v := undef) 16 [24, 23, 17, 14] rfl rfl (by kernel_rfl) (by kernel_rfl) (by kernel_rfl) (fun _ _ _ h => h) (by kernel_rfl) (Ext.stable _) hCD (.inr ⟨by rfl, rfl⟩) ?_
  refine anyU_takeP (i := 14) (j := 30) (v := undef) 17 [24, 23, 17] rfl rfl (by kernel_rfl) (by kernel_rfl) (by kernel_rfl) (fun _ _ _ h => h) (by kernel_rfl) (Ext.stable _) hCD (.inr ⟨by rfl, rfl⟩) ?_
  refine anyU_takeP (i := 15) (j := 30) (v := undef) 18 [24, 23, 17, 16] rfl rfl (by kernel_rfl) (by kernel_rfl) (by kernel_rfl) (fun _ _ _ h => h) (by kernel_rfl) (Ext.stable _) hCD (.inr ⟨by rfl, rfl⟩) ?_
  simp only [Act.put, List.setIfInBounds_toArray, List.set_cons_succ, List.set_cons_zero]
  refine anyU_takeP (i := 16) (j := 30) (v := .bool true) 19 [24, 23, 17] rfl rfl (by kernel_rfl) (by kernel_rfl) (by kernel_rfl) (fun _ _ _ h => h) (by kernel_rfl) (Ext.stable _) hCD (yieldsU_val rfl (fun u hu => by go_simp)) ?_
  refine anyU_takeP (i := 17) (j := 30) (v := .bool true) 20 [24, 23] rfl rfl (by kernel_rfl) (by kernel_rfl) (by kernel_rfl) (fun _ _ _ h => h) (by kernel_rfl) (Ext.stable _) hCD (yieldsU_val rfl (fun u hu => by go_simp)) ?_
  refine anyU_takeP (i := 18) (j := 30) (v := undef) 21 [24, 21, 20, 19] rfl rfl (by kernel_rfl) (by kernel_rfl) (by kernel_rfl) (fun _ _ _ h => h) (by kernel_rfl) (Ext.stable _) hCD (.inr ⟨by rfl, rfl⟩) ?_
  refine anyU_takeP (i := 19) (j := 30) (v := undef) 22 [24, 21, 20] rfl rfl (by kernel_rfl) (by kernel_rfl) (by kernel_rfl) (fun _ _ _ h => h) (by kernel_rfl) (Ext.stable _) hCD (.inr ⟨by rfl, rfl⟩) ?_
  refine anyU_takeP (i := 20) (j := 30) (v := undef) 23 [24, 21] rfl rfl (by kernel_rfl) (by kernel_rfl) (by kernel_rfl) (fun _ _ _ h => h) (by kernel_rfl) (Ext.stable _) hCD (.inr ⟨by rfl, rfl⟩) ?_
  refine anyU_takeP (i := 21) (j := 30) (v := undef) 24 [24] rfl rfl (by kernel_rfl) (by kernel_rfl) (by kernel_rfl) (fun _ _ _ h => h) (by kernel_rfl) (Ext.stable _) hCD (.inr ⟨by rfl, rfl⟩) ?_
  refine anyU_takeP (i := 22) (j := 30) (v := undef) 25 [24, 23] rfl rfl (by kernel_rfl) (by kernel_rfl) (by kernel_rfl) (fun _ _ _ h => h) (by kernel_rfl) (Ext.stable _) hCD (.inr ⟨by rfl, rfl⟩) ?_
  simp only [Act.put, List.setIfInBounds_toArray, List.set_cons_succ, List.set_cons_zero]
  refine anyU_takeP (i := 23) (j := 30) (v := .bool true) 26 [24] rfl rfl (by kernel_rfl) (by kernel_rfl) (by kernel_rfl) (fun _ _ _ h => h) (by kernel_rfl) (Ext.stable _) hCD (yieldsU_val rfl (fun u hu => by go_simp)) ?_
  refine anyU_takeP (i := 24) (j := 30) (v := .bool true) 27 [] rfl rfl (by kernel_rfl) (by kernel_rfl) (by kernel_rfl) (fun _ _ _ h => h) (by kernel_rfl) (Ext.stable _) hCD (yieldsU_val rfl (fun u hu => by go_simp)) ?_
  simp only [Act.put, List.setIfInBounds_toArray, List.set_cons_succ, List.set_cons_zero]
  refine anyU_takeP (i := 25) (j := 30) (v := undef) 28 [29, 26] rfl rfl (by kernel_rfl) (by kernel_rfl) (by kernel_rfl) (fun _ _ _ h => h) (by kernel_rfl) (Ext.stable _) hCD (.inr ⟨by rfl, rfl⟩) ?_
  refine anyU_takeP (i := 26) (j := 30) (v := undef) 29 [29] rfl rfl (by kernel_rfl) (by kernel_rfl) (by kernel_rfl) (fun _ _ _ h => h) (by kernel_rfl) (Ext.stable _) hCD (.inr ⟨by rfl, rfl⟩) ?_
  refine anyU_takeP (i := 27) (j := 30) (v := undef) 30 [29, 28] rfl rfl (by kernel_rfl) (by kernel_rfl) (by kernel_rfl) (fun _ _ _ h => h) (by kernel_rfl) (Ext.stable _) hCD (.inr ⟨by rfl, rfl⟩) ?_
  refine anyU_takeP (i := 28) (j := 30) (v := undef) 31 [29] rfl rfl (by kernel_rfl) (by kernel_rfl) (by kernel_rfl) (fun _ _ _ h => h) (by kernel_rfl) (Ext.stable _) hCD (.inr ⟨by rfl, rfl⟩) ?_
  refine anyU_takeP (i := 29) (j := 30) (v := undef) 32 [] rfl rfl (by kernel_rfl) (by kernel_rfl) (by kernel_rfl) (fun _ _ _ h => h) (by kernel_rfl) (Ext.stable _) hCD (.inr ⟨by rfl, rfl⟩) ?_
  simp only [Act.put, List.setIfInBounds_toArray, List.set_cons_succ, List.set_cons_zero]
  refine anyU_tail 30 [] rfl rfl (by decide) (by kernel_rfl) ?_
  intro u3 hu3
  simp only [Act.put, List.filterMap_cons, List.filterMap_nil, List.getElem?_cons_succ, List.getElem?_cons_zero]
  have B3 := Lib.hid (bel_trans B0.out hu3)
  clear hu3
  go_wp2_with fail
  go_ret
  exact ⟨rfl, B3.out⟩
set_option maxRecDepth 100000 in
set_option maxHeartbeats 4000000 in
theorem ocheck_n1 (l k a b : Int) (zs : List Int) (w : World) (hz : Hid (zs.length = 32)) (hl : Hid (lineB l = true)) (hk : Hid (elB k = false)) :
    Calls Tryz.prog 46 #[.agg (rtv l k a b zs).toArray] w fun e w' => e = .returned (.int .i64 160) ∧ Below w.heap.size w w' := by
  have X := Lib.hid (RBlk.box w l k a b hz.out)
  have BX := Lib.hid (bel_alloc1 w (.cells (rtv l k a b zs).toArray 29))
  go_enter Tryz.func46, Tryz.ntmps46
  go_upto_region 1 with fail
  refine wp_region_any (by kernel_rfl) ?_
  change wpAny _ _ _ _ _ _ _ (World.drew _)
  generalize hWD : World.drew _ = W
  have X0 := Lib.hid (show RBlk W w.heap.size l k a b zs by rw [← hWD]; exact X.out)
  have B0 := Lib.hid (show Below w.heap.size w W by rw [← hWD]; exact BX.out.drew)
  clear hWD X BX
  have hCD : ∀ u, Ext W u → Ext W u := fun u hu => hu
  refine region_U (D := Ext W) (Ext W) [30] (Ext.refl W) ?_
  refine anyU_takeP (i := 0) (j := 30) (v := .pointer (some ⟨w.heap.size, 0, none⟩)) 3 [24, 23, 17, 16, 10, 9, 4, 2, 1] rfl rfl (by kernel_rfl) (by kernel_rfl) (by kernel_rfl) (fun _ _ _ h => h) (by kernel_rfl) (Ext.stable _) hCD (yieldsU_val rfl (fun u hu => by go_simp)) ?_
  refine anyU_takeP (i := 1) (j := 30) (v := .int .i64 l) 4 [24, 23, 17, 16, 10, 9, 4, 2] rfl rfl (by kernel_rfl) (by kernel_rfl) (by kernel_rfl) (fun _ _ _ h => h) (by kernel_rfl) (Ext.stable _) hCD (yieldsU_val rfl (fun u hu => by obtain ⟨c0, c1, c2, c3⟩ := (X0.out.bel hu).ints; go_simp)) ?_
  refine anyU_takeP (i := 2) (j := 30) (v := .bool true) 5 [24, 23, 17, 16, 10, 9, 4] rfl rfl (by kernel_rfl) (by kernel_rfl) (by kernel_rfl) (fun _ _ _ h => h) (by kernel_rfl) (Ext.stable _) hCD (yieldsU_call rfl 24 _ _ rfl #[.int .i64 l] (by simp [Act.eval, Act.put]) (fun u => by go_simp) (fun u hu => by have h := ovline_any l u; rw [hl.out] at h; exact h.mono fun e w' hh => ⟨hh.1, hh.2 ▸ Below.refl _ _⟩)) ?_
  refine anyU_takeP (i := 3) (j := 30) (v := .bool false) 6 [24, 23, 17, 16, 10, 9, 4] rfl rfl (by kernel_rfl) (by kernel_rfl) (by kernel_rfl) (fun _ _ _ h => h) (by kernel_rfl) (Ext.stable _) hCD (yieldsU_val rfl (fun u hu => by go_simp)) ?_
  refine anyU_takeP (i := 4) (j := 30) (v := .bool false) 7 [24, 23, 17, 16, 10, 9] rfl rfl (by kernel_rfl) (by kernel_rfl) (by kernel_rfl) (fun _ _ _ h => h) (by kernel_rfl) (Ext.stable _) hCD (yieldsU_val rfl (fun u hu => by go_simp)) ?_
  simp only [Act.put, List.setIfInBounds_toArray, List.set_cons_succ, List.set_cons_zero]
  refine anyU_takeP (i := 5) (j := 30) (v := .pointer (some ⟨w.heap.size, 1, none⟩)) 8 [24, 23, 17, 16, 10, 7, 6] rfl rfl (by kernel_rfl) (by kernel_rfl) (by kernel_rfl) (fun _ _ _ h => h) (by kernel_rfl) (Ext.stable _) hCD (yieldsU_val rfl (fun u hu => by go_simp)) ?_
  refine anyU_takeP (i := 6) (j := 30) (v := .int .i64 k) 9 [24, 23, 17, 16, 10, 7] rfl rfl (by kernel_rfl) (by kernel_rfl) (by kernel_rfl) (fun _ _ _ h => h) (by kernel_rfl) (Ext.stable _) hCD (yieldsU_val rfl (fun u hu => by obtain ⟨c0, c1, c2, c3⟩ := (X0.out.bel hu).ints; go_simp)) ?_
  refine anyU_takeP (i := 7) (j := 30) (v := .bool false) 10 [24, 23, 17, 16, 10] rfl rfl (by kernel_rfl) (by kernel_rfl) (by kernel_rfl) (fun _ _ _ h => h) (by kernel_rfl) (Ext.stable _) hCD (yieldsU_call rfl 25 _ _ rfl #[.int .i64 k] (by simp [Act.eval, Act.put]) (fun u => by go_simp) (fun u hu => (val_c k _ u hk.out).mono fun e w' hh => ⟨hh.1, hh.2 ▸ Below.refl _ _⟩)) ?_
  refine anyU_takeP (i := 8) (j := 30) (v := .bool true) 11 [24, 23, 17, 16, 10, 9] rfl rfl (by kernel_rfl) (by kernel_rfl) (by kernel_rfl) (fun _ _ _ h => h) (by kernel_rfl) (Ext.stable _) hCD (yieldsU_val rfl (fun u hu => by go_simp)) ?_
  simp only [Act.put, List.setIfInBounds_toArray, List.set_cons_succ, List.set_cons_zero]
  refine anyU_takeP (i := 9) (j := 30) (v := .bool true) 12 [24, 23, 17, 16, 10] rfl rfl (by kernel_rfl) (by kernel_rfl) (by kernel_rfl) (fun _ _ _ h => h) (by kernel_rfl) (Ext.stable _) hCD (yieldsU_val rfl (fun u hu => by go_simp)) ?_
  refine anyU_takeP (i := 10) (j := 30) (v := .bool true) 13 [24, 23, 17, 16] rfl rfl (by kernel_rfl) (by kernel_rfl) (by kernel_rfl) (fun _ _ _ h => h) (by kernel_rfl) (Ext.stable _) hCD (yieldsU_val rfl (fun u hu => by go_simp)) ?_
  refine anyU_takeP (i := 11) (j := 30) (v := undef) 14 [24, 23, 17, 14, 13, 12] rfl rfl (by kernel_rfl) (by kernel_rfl) (by kernel_rfl) (fun _ _ _ h => h) (by kernel_rfl) (Ext.stable _) hCD (.inr ⟨by rfl, rfl⟩) ?_
  refine anyU_takeP (i := 12) (j := 30) (v := undef) 15 [24, 23, 17, 14, 13] rfl rfl (by kernel_rfl) (by kernel_rfl) (by kernel_rfl) (fun _ _ _ h => h) (by kernel_rfl) (Ext.stable _) hCD (.inr ⟨by rfl, rfl⟩) ?_
  refine anyU_takeP (i := 13) (j := 30) (v := undef) 16 [24, 23, 17, 14] rfl rfl (by kernel_rfl) (by kernel_rfl) (by kernel_rfl) (fun _ _ _ h => h) (by kernel_rfl) (Ext.stable _) hCD (.inr ⟨by rfl, rfl⟩) ?_
  refine anyU_takeP (i := 14) (j := 30) (v := undef) 17 [24, 23, 17] rfl rfl (by kernel_rfl) (by kernel_rfl) (by kernel_rfl) (fun _ _ _ h => h) (by kernel_rfl) (Ext.stable _) hCD (.inr ⟨by rfl, rfl⟩) ?_
  refine anyU_takeP (i := 15) (j := 30) (v := undef) 18 [24, 23, 17, 16] rfl rfl (by kernel_rfl) (by kernel_rfl) (by kernel_rfl) (fun _ _ _ h => h) (by kernel_rfl) (Ext.stable _) hCD (.inr ⟨by rfl, rfl⟩) ?_
  simp only [Act.put, List.setIfInBounds_toArray, List.set_cons_succ, List.set_cons_zero]
  refine anyU_takeP (i := 16) (j := 30) (v := .bool true) 19 [24, 23, 17] rfl rfl (by kernel_rfl) (by kernel_rfl) (by kernel_rfl) (fun _ _ _ h => h) (by kernel_rfl) (Ext.stable _) hCD (yieldsU_val rfl (fun u hu => by go_simp)) ?_
  refine anyU_takeP (i := 17) (j := 30) (v := .bool true) 20 [24, 23] rfl rfl (by kernel_rfl) (by kernel_rfl) (by kernel_rfl) (fun _ _ _ h => h) (by kernel_rfl) (Ext.stable _) hCD (yieldsU_val rfl (fun u hu => by go_simp)) ?_
  refine anyU_takeP (i := 18) (j := 30) (v := undef) 21 [24, 21, 20, 19] rfl rfl (by kernel_rfl) (by kernel_rfl) (by kernel_rfl) (fun _ _ _ h => h) (by kernel_rfl) (Ext.stable _) hCD (.inr ⟨by rfl, rfl⟩) ?_
  refine anyU_takeP (i := 19) (j := 30) (v := undef) 22 [24, 21, 20] rfl rfl (by kernel_rfl) (by kernel_rfl) (by kernel_rfl) (fun _ _ _ h => h) (by kernel_rfl) (Ext.stable _) hCD (.inr ⟨by rfl, rfl⟩) ?_
  refine anyU_takeP (i := 20) (j := 30) (v := undef) 23 [24, 21] rfl rfl (by kernel_rfl) (by kernel_rfl) (by kernel_rfl) (fun _ _ _ h => h) (by kernel_rfl) (Ext.stable _) hCD (.inr ⟨by rfl, rfl⟩) ?_
  refine anyU_takeP (i := 21) (j := 30) (v := undef) 24 [24] rfl rfl (by kernel_rfl) (by kernel_rfl) (by kernel_rfl) (fun _ _ _ h => h) (by kernel_rfl) (Ext.stable _) hCD (.inr ⟨by rfl, rfl⟩) ?_
  refine anyU_takeP (i := 22) (j := 30) (v := undef) 25 [24, 23] rfl rfl (by kernel_rfl) (by kernel_rfl) (by kernel_rfl) (fun _ _ _ h => h) (by kernel_rfl) (Ext.stable _) hCD (.inr ⟨by rfl, rfl⟩) ?_
  simp only [Act.put, List.setIfInBounds_toArray, List.set_cons_succ, List.set_cons_zero]
  refine anyU_takeP (i := 23) (j := 30) (v := .bool true) 26 [24] rfl rfl (by kernel_rfl) (by kernel_rfl) (by kernel_rfl) (fun _ _ _ h => h) (by kernel_rfl) (Ext.stable _) hCD (yieldsU_val rfl (fun u hu => by go_simp)) ?_
  refine anyU_takeP (i := 24) (j := 30) (v := .bool true) 27 [] rfl rfl (by kernel_rfl) (by kernel_rfl) (by kernel_rfl) (fun _ _ _ h => h) (by kernel_rfl) (Ext.stable _) hCD (yieldsU_val rfl (fun u hu => by go_simp)) ?_
  simp only [Act.put, List.setIfInBounds_toArray, List.set_cons_succ, List.set_cons_zero]
  refine anyU_takeP (i := 25) (j := 30) (v := undef) 28 [29, 26] rfl rfl (by kernel_rfl) (by kernel_rfl) (by kernel_rfl) (fun _ _ _ h => h) (by kernel_rfl) (Ext.stable _) hCD (.inr ⟨by rfl, rfl⟩) ?_
  refine anyU_takeP (i := 26) (j := 30) (v := undef) 29 [29] rfl rfl (by kernel_rfl) (by kernel_rfl) (by kernel_rfl) (fun _ _ _ h => h) (by kernel_rfl) (Ext.stable _) hCD (.inr ⟨by rfl, rfl⟩) ?_
  refine anyU_takeP (i := 27) (j := 30) (v := undef) 30 [29, 28] rfl rfl (by kernel_rfl) (by kernel_rfl) (by kernel_rfl) (fun _ _ _ h => h) (by kernel_rfl) (Ext.stable _) hCD (.inr ⟨by rfl, rfl⟩) ?_
  refine anyU_takeP (i := 28) (j := 30) (v := undef) 31 [29] rfl rfl (by kernel_rfl) (by kernel_rfl) (by kernel_rfl) (fun _ _ _ h => h) (by kernel_rfl) (Ext.stable _) hCD (.inr ⟨by rfl, rfl⟩) ?_
  refine anyU_takeP (i := 29) (j := 30) (v := undef) 32 [] rfl rfl (by kernel_rfl) (by kernel_rfl) (by kernel_rfl) (fun _ _ _ h => h) (by kernel_rfl) (Ext.stable _) hCD (.inr ⟨by rfl, rfl⟩) ?_
  simp only [Act.put, List.setIfInBounds_toArray, List.set_cons_succ, List.set_cons_zero]
  refine anyU_tail 30 [] rfl rfl (by decide) (by kernel_rfl) ?_
  intro u3 hu3
  simp only [Act.put, List.filterMap_cons, List.filterMap_nil, List.getElem?_cons_succ, List.getElem?_cons_zero]
  have B3 := Lib.hid (bel_trans B0.out hu3)
  clear hu3
  go_wp2_with fail
  go_ret
  exact ⟨rfl, B3.out⟩
set_option maxRecDepth 100000 in
set_option maxHeartbeats 4000000 in
theorem ocheck_n2 (l k a b : Int) (zs : List Int) (w : World) (hz : Hid (zs.length = 32)) (hl : Hid (lineB l = true)) (hk : Hid (elB k = true)) (ha : Hid (elB a = false)) :
    Calls Tryz.prog 46 #[.agg (rtv l k a b zs).toArray] w fun e w' => e = .returned (.int .i64 160) ∧ Below w.heap.size w w' := by
  have X := Lib.hid (RBlk.box w l k a b hz.out)
  have BX := Lib.hid (bel_alloc1 w (.cells (rtv l k a b zs).toArray 29))
  go_enter Tryz.func46, Tryz.ntmps46
  go_upto_region 1 with fail
  refine wp_region_any (by kernel_rfl) ?_
  change wpAny _ _ _ _ _ _ _ (World.drew _)
  generalize hWD : World.drew _ = W
  have X0 := Lib.hid (show RBlk W w.heap.size l k a b zs by rw [← hWD]; exact X.out)
  have B0 := Lib.hid (show Below w.heap.size w W by rw [← hWD]; exact BX.out.drew)
  clear hWD X BX
  have hCD : ∀ u, Ext W u → Ext W u := fun u hu => hu
  refine region_U (D := Ext W) (Ext W) [30] (Ext.refl W) ?_
  refine anyU_takeP (i := 0) (j := 30) (v := .pointer (some ⟨w.heap.size, 0, none⟩)) 3 [24, 23, 17, 16, 10, 9, 4, 2, 1] rfl rfl (by kernel_rfl) (by kernel_rfl) (by kernel_rfl) (fun _ _ _ h => h) (by kernel_rfl) (Ext.stable _) hCD (yieldsU_val rfl (fun u hu => by go_simp)) ?_
  refine anyU_takeP (i := 1) (j := 30) (v := .int .i64 l) 4 [24, 23, 17, 16, 10, 9, 4, 2] rfl rfl (by kernel_rfl) (by kernel_rfl) (by kernel_rfl) (fun _ _ _ h => h) (by kernel_rfl) (Ext.stable _) hCD (yieldsU_val rfl (fun u hu => by obtain ⟨c0, c1, c2, c3⟩ := (X0.out.bel hu).ints; go_simp)) ?_
  refine anyU_takeP (i := 2) (j := 30) (v := .bool true) 5 [24, 23, 17, 16, 10, 9, 4] rfl rfl (by kernel_rfl) (by kernel_rfl) (by kernel_rfl) (fun _ _ _ h => h) (by kernel_rfl) (Ext.stable _) hCD (yieldsU_call rfl 24 _ _ rfl #[.int .i64 l] (by simp [Act.eval, Act.put]) (fun u => by go_simp) (fun u hu => by have h := ovline_any l u; rw [hl.out] at h; exact h.mono fun e w' hh => ⟨hh.1, hh.2 ▸ Below.refl _ _⟩)) ?_
  refine anyU_takeP (i := 3) (j := 30) (v := .bool false) 6 [24, 23, 17, 16, 10, 9, 4] rfl rfl (by kernel_rfl) (by kernel_rfl) (by kernel_rfl) (fun _ _ _ h => h) (by kernel_rfl) (Ext.stable _) hCD (yieldsU_val rfl (fun u hu => by go_simp)) ?_
  refine anyU_takeP (i := 4) (j := 30) (v := .bool false) 7 [24, 23, 17, 16, 10, 9] rfl rfl (by kernel_rfl) (by kernel_rfl) (by kernel_rfl) (fun _ _ _ h => h) (by kernel_rfl) (Ext.stable _) hCD (yieldsU_val rfl (fun u hu => by go_simp)) ?_
  simp only [Act.put, List.setIfInBounds_toArray, List.set_cons_succ, List.set_cons_zero]
  refine anyU_takeP (i := 5) (j := 30) (v := .pointer (some ⟨w.heap.size, 1, none⟩)) 8 [24, 23, 17, 16, 10, 7, 6] rfl rfl (by kernel_rfl) (by kernel_rfl) (by kernel_rfl) (fun _ _ _ h => h) (by kernel_rfl) (Ext.stable _) hCD (yieldsU_val rfl (fun u hu => by go_simp)) ?_
  refine anyU_takeP (i := 6) (j := 30) (v := .int .i64 k) 9 [24, 23, 17, 16, 10, 7] rfl rfl (by kernel_rfl) (by kernel_rfl) (by kernel_rfl) (fun _ _ _ h => h) (by kernel_rfl) (Ext.stable _) hCD (yieldsU_val rfl (fun u hu => by obtain ⟨c0, c1, c2, c3⟩ := (X0.out.bel hu).ints; go_simp)) ?_
  refine anyU_takeP (i := 7) (j := 30) (v := .bool true) 10 [24, 23, 17, 16, 10] rfl rfl (by kernel_rfl) (by kernel_rfl) (by kernel_rfl) (fun _ _ _ h => h) (by kernel_rfl) (Ext.stable _) hCD (yieldsU_call rfl 25 _ _ rfl #[.int .i64 k] (by simp [Act.eval, Act.put]) (fun u => by go_simp) (fun u hu => (val_c k _ u hk.out).mono fun e w' hh => ⟨hh.1, hh.2 ▸ Below.refl _ _⟩)) ?_
  refine anyU_takeP (i := 8) (j := 30) (v := .bool false) 11 [24, 23, 17, 16, 10, 9] rfl rfl (by kernel_rfl) (by kernel_rfl) (by kernel_rfl) (fun _ _ _ h => h) (by kernel_rfl) (Ext.stable _) hCD (yieldsU_val rfl (fun u hu => by go_simp)) ?_
  simp only [Act.put, List.setIfInBounds_toArray, List.set_cons_succ, List.set_cons_zero]
  refine anyU_takeP (i := 9) (j := 30) (v := .bool false) 12 [24, 23, 17, 16, 10] rfl rfl (by kernel_rfl) (by kernel_rfl) (by kernel_rfl) (fun _ _ _ h => h) (by kernel_rfl) (Ext.stable _) hCD (yieldsU_val rfl (fun u hu => by go_simp)) ?_
  refine anyU_takeP (i := 10) (j := 30) (v := .bool false) 13 [24, 23, 17, 16] rfl rfl (by kernel_rfl) (by kernel_rfl) (by kernel_rfl) (fun _ _ _ h => h) (by kernel_rfl) (Ext.stable _) hCD (yieldsU_val rfl (fun u hu => by go_simp)) ?_
  refine anyU_takeP (i := 11) (j := 30) (v := .pointer (some ⟨w.heap.size, 2, none⟩)) 14 [24, 23, 17, 14, 13, 12] rfl rfl (by kernel_rfl) (by kernel_rfl) (by kernel_rfl) (fun _ _ _ h => h) (by kernel_rfl) (Ext.stable _) hCD (yieldsU_val rfl (fun u hu => by go_simp)) ?_
  refine anyU_takeP (i := 12) (j := 30) (v := .pointer (some ⟨w.heap.size, 2, none⟩)) 15 [24, 23, 17, 14, 13] rfl rfl (by kernel_rfl) (by kernel_rfl) (by kernel_rfl) (fun _ _ _ h => h) (by kernel_rfl) (Ext.stable _) hCD (yieldsU_val rfl (fun u hu => by go_simp)) ?_
  refine anyU_takeP (i := 13) (j := 30) (v := .int .i64 a) 16 [24, 23, 17, 14] rfl rfl (by kernel_rfl) (by kernel_rfl) (by kernel_rfl) (fun _ _ _ h => h) (by kernel_rfl) (Ext.stable _) hCD (yieldsU_val rfl (fun u hu => by obtain ⟨c0, c1, c2, c3⟩ := (X0.out.bel hu).ints; go_simp)) ?_
  refine anyU_takeP (i := 14) (j := 30) (v := .bool false) 17 [24, 23, 17] rfl rfl (by kernel_rfl) (by kernel_rfl) (by kernel_rfl) (fun _ _ _ h => h) (by kernel_rfl) (Ext.stable _) hCD (yieldsU_call rfl 25 _ _ rfl #[.int .i64 a] (by simp [Act.eval, Act.put]) (fun u => by go_simp) (fun u hu => (val_c a _ u ha.out).mono fun e w' hh => ⟨hh.1, hh.2 ▸ Below.refl _ _⟩)) ?_
  refine anyU_takeP (i := 15) (j := 30) (v := .bool true) 18 [24, 23, 17, 16] rfl rfl (by kernel_rfl) (by kernel_rfl) (by kernel_rfl) (fun _ _ _ h => h) (by kernel_rfl) (Ext.stable _) hCD (yieldsU_val rfl (fun u hu => by go_simp)) ?_
  simp only [Act.put, List.setIfInBounds_toArray, List.set_cons_succ, List.set_cons_zero]
  refine anyU_takeP (i := 16) (j := 30) (v := .bool true) 19 [24, 23, 17] rfl rfl (by kernel_rfl) (by kernel_rfl) (by kernel_rfl) (fun _ _ _ h => h) (by kernel_rfl) (Ext.stable _) hCD (yieldsU_val rfl (fun u hu => by go_simp)) ?_
  refine anyU_takeP (i := 17) (j := 30) (v := .bool true) 20 [24, 23] rfl rfl (by kernel_rfl) (by kernel_rfl) (by kernel_rfl) (fun _ _ _ h => h) (by kernel_rfl) (Ext.stable _) hCD (yieldsU_val rfl (fun u hu => by go_simp)) ?_
  refine anyU_takeP (i := 18) (j := 30) (v := undef) 21 [24, 21, 20, 19] rfl rfl (by kernel_rfl) (by kernel_rfl) (by kernel_rfl) (fun _ _ _ h => h) (by kernel_rfl) (Ext.stable _) hCD (.inr ⟨by rfl, rfl⟩) ?_
  refine anyU_takeP (i := 19) (j := 30) (v := undef) 22 [24, 21, 20] rfl rfl (by kernel_rfl) (by kernel_rfl) (by kernel_rfl) (fun _ _ _ h => h) (by kernel_rfl) (Ext.stable _) hCD (.inr ⟨by rfl, rfl⟩) ?_
  refine anyU_takeP (i := 20) (j := 30) (v := undef) 23 [24, 21] rfl rfl (by kernel_rfl) (by kernel_rfl) (by kernel_rfl) (fun _ _ _ h => h) (by kernel_rfl) (Ext.stable _) hCD (.inr ⟨by rfl, rfl⟩) ?_
  refine anyU_takeP (i := 21) (j := 30) (v := undef) 24 [24] rfl rfl (by kernel_rfl) (by kernel_rfl) (by kernel_rfl) (fun _ _ _ h => h) (by kernel_rfl) (Ext.stable _) hCD (.inr ⟨by rfl, rfl⟩) ?_
  refine anyU_takeP (i := 22) (j := 30) (v := undef) 25 [24, 23] rfl rfl (by kernel_rfl) (by kernel_rfl) (by kernel_rfl) (fun _ _ _ h => h) (by kernel_rfl) (Ext.stable _) hCD (.inr ⟨by rfl, rfl⟩) ?_
  simp only [Act.put, List.setIfInBounds_toArray, List.set_cons_succ, List.set_cons_zero]
  refine anyU_takeP (i := 23) (j := 30) (v := .bool true) 26 [24] rfl rfl (by kernel_rfl) (by kernel_rfl) (by kernel_rfl) (fun _ _ _ h => h) (by kernel_rfl) (Ext.stable _) hCD (yieldsU_val rfl (fun u hu => by go_simp)) ?_
  refine anyU_takeP (i := 24) (j := 30) (v := .bool true) 27 [] rfl rfl (by kernel_rfl) (by kernel_rfl) (by kernel_rfl) (fun _ _ _ h => h) (by kernel_rfl) (Ext.stable _) hCD (yieldsU_val rfl (fun u hu => by go_simp)) ?_
  simp only [Act.put, List.setIfInBounds_toArray, List.set_cons_succ, List.set_cons_zero]
  refine anyU_takeP (i := 25) (j := 30) (v := undef) 28 [29, 26] rfl rfl (by kernel_rfl) (by kernel_rfl) (by kernel_rfl) (fun _ _ _ h => h) (by kernel_rfl) (Ext.stable _) hCD (.inr ⟨by rfl, rfl⟩) ?_
  refine anyU_takeP (i := 26) (j := 30) (v := undef) 29 [29] rfl rfl (by kernel_rfl) (by kernel_rfl) (by kernel_rfl) (fun _ _ _ h => h) (by kernel_rfl) (Ext.stable _) hCD (.inr ⟨by rfl, rfl⟩) ?_
  refine anyU_takeP (i := 27) (j := 30) (v := undef) 30 [29, 28] rfl rfl (by kernel_rfl) (by kernel_rfl) (by kernel_rfl) (fun _ _ _ h => h) (by kernel_rfl) (Ext.stable _) hCD (.inr ⟨by rfl, rfl⟩) ?_
  refine anyU_takeP (i := 28) (j := 30) (v := undef) 31 [29] rfl rfl (by kernel_rfl) (by kernel_rfl) (by kernel_rfl) (fun _ _ _ h => h) (by kernel_rfl) (Ext.stable _) hCD (.inr ⟨by rfl, rfl⟩) ?_
  refine anyU_takeP (i := 29) (j := 30) (v := undef) 32 [] rfl rfl (by kernel_rfl) (by kernel_rfl) (by kernel_rfl) (fun _ _ _ h => h) (by kernel_rfl) (Ext.stable _) hCD (.inr ⟨by rfl, rfl⟩) ?_
  simp only [Act.put, List.setIfInBounds_toArray, List.set_cons_succ, List.set_cons_zero]
  refine anyU_tail 30 [] rfl rfl (by decide) (by kernel_rfl) ?_
  intro u3 hu3
  simp only [Act.put, List.filterMap_cons, List.filterMap_nil, List.getElem?_cons_succ, List.getElem?_cons_zero]
  have B3 := Lib.hid (bel_trans B0.out hu3)
  clear hu3
  go_wp2_with fail
  go_ret
  exact ⟨rfl, B3.out⟩
set_option maxRecDepth 100000 in
set_option maxHeartbeats 4000000 in
theorem ocheck_n3 (l k a b : Int) (zs : List Int) (w : World) (hz : Hid (zs.length = 32)) (hl : Hid (lineB l = true)) (hk : Hid (elB k = true)) (ha : Hid (elB a = true)) (hb : Hid (elB b = false)) :
    Calls Tryz.prog 46 #[.agg (rtv l k a b zs).toArray] w fun e w' => e = .returned (.int .i64 160) ∧ Below w.heap.size w w' := by
  have X := Lib.hid (RBlk.box w l k a b hz.out)
  have BX := Lib.hid (bel_alloc1 w (.cells (rtv l k a b zs).toArray 29))
  go_enter Tryz.func46, Tryz.ntmps46
  go_upto_region 1 with fail
  refine wp_region_any (by kernel_rfl) ?_
  change wpAny _ _ _ _ _ _ _ (World.drew _)
  generalize hWD : World.drew _ = W
  have X0 := Lib.hid (show RBlk W w.heap.size l k a b zs by rw [← hWD]; exact X.out)
  have B0 := Lib.hid (show Below w.heap.size w W by rw [← hWD]; exact BX.out.drew)
  clear hWD X BX
  have hCD : ∀ u, Ext W u → Ext W u := fun u hu => hu
  refine region_U (D := Ext W) (Ext W) [30] (Ext.refl W) ?_
  refine anyU_takeP (i := 0) (j := 30) (v := .pointer (some ⟨w.heap.size, 0, none⟩)) 3 [24, 23, 17, 16, 10, 9, 4, 2, 1] rfl rfl (by kernel_rfl) (by kernel_rfl) (by kernel_rfl) (fun _ _ _ h => h) (by kernel_rfl) (Ext.stable _) hCD (yieldsU_val rfl (fun u hu => by go_simp)) ?_
  refine anyU_takeP (i := 1) (j := 30) (v := .int .i64 l) 4 [24, 23, 17, 16, 10, 9, 4, 2] rfl rfl (by kernel_rfl) (by kernel_rfl) (by kernel_rfl) (fun _ _ _ h => h) (by kernel_rfl) (Ext.stable _) hCD (yieldsU_val rfl (fun u hu => by obtain ⟨c0, c1, c2, c3⟩ := (X0.out.bel hu).ints; go_simp)) ?_
  refine anyU_takeP (i := 2) (j := 30) (v := .bool true) 5 [24, 23, 17, 16, 10, 9, 4] rfl rfl (by kernel_rfl) (by kernel_rfl) (by kernel_rfl) (fun _ _ _ h => h) (by kernel_rfl) (Ext.stable _) hCD (yieldsU_call rfl 24 _ _ rfl #[.int .i64 l] (by simp [Act.eval, Act.put]) (fun u => by go_simp) (fun u hu => by have h := ovline_any l u; rw [hl.out] at h; exact h.mono fun e w' hh => ⟨hh.1, hh.2 ▸ Below.refl _ _⟩)) ?_
  refine anyU_takeP (i := 3) (j := 30) (v := .bool false) 6 [24, 23, 17, 16, 10, 9, 4] rfl rfl (by kernel_rfl) (by kernel_rfl) (by kernel_rfl) (fun _ _ _ h => h) (by kernel_rfl) (Ext.stable _) hCD (yieldsU_val rfl (fun u hu => by go_simp)) ?_
  refine anyU_takeP (i := 4) (j := 30) (v := .bool false) 7 [24, 23, 17, 16, 10, 9] rfl rfl (by kernel_rfl) (by kernel_rfl) (by kernel_rfl) (fun _ _ _ h => h) (by kernel_rfl) (Ext.stable _) hCD (yieldsU_val rfl (fun u hu => by go_simp)) ?_
  simp only [Act.put, List.setIfInBounds_toArray, List.set_cons_succ, List.set_cons_zero]
  refine anyU_takeP (i := 5) (j := 30) (v := .pointer (some ⟨w.heap.size, 1, none⟩)) 8 [24, 23, 17, 16, 10, 7, 6] rfl rfl (by kernel_rfl) (by kernel_rfl) (by kernel_rfl) (fun _ _ _ h => h) (by kernel_rfl) (Ext.stable _) hCD (yieldsU_val rfl (fun u hu => by go_simp)) ?_
  refine anyU_takeP (i := 6) (j := 30) (v := .int .i64 k) 9 [24, 23, 17, 16, 10, 7] rfl rfl (by kernel_rfl) (by kernel_rfl) (by kernel_rfl) (fun _ _ _ h => h) (by kernel_rfl) (Ext.stable _) hCD (yieldsU_val rfl (fun u hu => by obtain ⟨c0, c1, c2, c3⟩ := (X0.out.bel hu).ints; go_simp)) ?_
  refine anyU_takeP (i := 7) (j := 30) (v := .bool true) 10 [24, 23, 17, 16, 10] rfl rfl (by kernel_rfl) (by kernel_rfl) (by kernel_rfl) (fun _ _ _ h => h) (by kernel_rfl) (Ext.stable _) hCD (yieldsU_call rfl 25 _ _ rfl #[.int .i64 k] (by simp [Act.eval, Act.put]) (fun u => by go_simp) (fun u hu => (val_c k _ u hk.out).mono fun e w' hh => ⟨hh.1, hh.2 ▸ Below.refl _ _⟩)) ?_
  refine anyU_takeP (i := 8) (j := 30) (v := .bool false) 11 [24, 23, 17, 16, 10, 9] rfl rfl (by kernel_rfl) (by kernel_rfl) (by kernel_rfl) (fun _ _ _ h => h) (by kernel_rfl) (Ext.stable _) hCD (yieldsU_val rfl (fun u hu => by go_simp)) ?_
  simp only [Act.put, List.setIfInBounds_toArray, List.set_cons_succ, List.set_cons_zero]
  refine anyU_takeP (i := 9) (j := 30) (v := .bool false) 12 [24, 23, 17, 16, 10] rfl rfl (by kernel_rfl) (by kernel_rfl) (by kernel_rfl) (fun _ _ _ h => h) (by kernel_rfl) (Ext.stable _) hCD (yieldsU_val rfl (fun u hu => by go_simp)) ?_
  refine anyU_takeP (i := 10) (j := 30) (v := .bool false) 13 [24, 23, 17, 16] rfl rfl (by kernel_rfl) (by kernel_rfl) (by kernel_rfl) (fun _ _ _ h => h) (by kernel_rfl) (Ext.stable _) hCD (yieldsU_val rfl (fun u hu => by go_simp)) ?_
  refine anyU_takeP (i := 11) (j := 30) (v := .pointer (some ⟨w.heap.size, 2, none⟩)) 14 [24, 23, 17, 14, 13, 12] rfl rfl (by kernel_rfl) (by kernel_rfl) (by kernel_rfl) (fun _ _ _ h => h) (by kernel_rfl) (Ext.stable _) hCD (yieldsU_val rfl (fun u hu => by go_simp)) ?_
  refine anyU_takeP (i := 12) (j := 30) (v := .pointer (some ⟨w.heap.size, 2, none⟩)) 15 [24, 23, 17, 14, 13] rfl rfl (by kernel_rfl) (by kernel_rfl) (by kernel_rfl) (fun _ _ _ h => h) (by kernel_rfl) (Ext.stable _) hCD (yieldsU_val rfl (fun u hu => by go_simp)) ?_
  refine anyU_takeP (i := 13) (j := 30) (v := .int .i64 a) 16 [24, 23, 17, 14] rfl rfl (by kernel_rfl) (by kernel_rfl) (by kernel_rfl) (fun _ _ _ h => h) (by kernel_rfl) (Ext.stable _) hCD (yieldsU_val rfl (fun u hu => by obtain ⟨c0, c1, c2, c3⟩ := (X0.out.bel hu).ints; go_simp)) ?_
  refine anyU_takeP (i := 14) (j := 30) (v := .bool true) 17 [24, 23, 17] rfl rfl (by kernel_rfl) (by kernel_rfl) (by kernel_rfl) (fun _ _ _ h => h) (by kernel_rfl) (Ext.stable _) hCD (yieldsU_call rfl 25 _ _ rfl #[.int .i64 a] (by simp [Act.eval, Act.put]) (fun u => by go_simp) (fun u hu => (val_c a _ u ha.out).mono fun e w' hh => ⟨hh.1, hh.2 ▸ Below.refl _ _⟩)) ?_
  refine anyU_takeP (i := 15) (j := 30) (v := .bool false) 18 [24, 23, 17, 16] rfl rfl (by kernel_rfl) (by kernel_rfl) (by kernel_rfl) (fun _ _ _ h => h) (by kernel_rfl) (Ext.stable _) hCD (yieldsU_val rfl (fun u hu => by go_simp)) ?_
  simp only [Act.put, List.setIfInBounds_toArray, List.set_cons_succ, List.set_cons_zero]
  refine anyU_takeP (i := 16) (j := 30) (v := .bool false) 19 [24, 23, 17] rfl rfl (by kernel_rfl) (by kernel_rfl) (by kernel_rfl) (fun _ _ _ h => h) (by kernel_rfl) (Ext.stable _) hCD (yieldsU_val rfl (fun u hu => by go_simp)) ?_
  refine anyU_takeP (i := 17) (j := 30) (v := .bool false) 20 [24, 23] rfl rfl (by kernel_rfl) (by kernel_rfl) (by kernel_rfl) (fun _ _ _ h => h) (by kernel_rfl) (Ext.stable _) hCD (yieldsU_val rfl (fun u hu => by go_simp)) ?_
  refine anyU_takeP (i := 18) (j := 30) (v := .pointer (some ⟨w.heap.size, 2, none⟩)) 21 [24, 21, 20, 19] rfl rfl (by kernel_rfl) (by kernel_rfl) (by kernel_rfl) (fun _ _ _ h => h) (by kernel_rfl) (Ext.stable _) hCD (yieldsU_val rfl (fun u hu => by go_simp)) ?_
  refine anyU_takeP (i := 19) (j := 30) (v := .pointer (some ⟨w.heap.size, 3, none⟩)) 22 [24, 21, 20] rfl rfl (by kernel_rfl) (by kernel_rfl) (by kernel_rfl) (fun _ _ _ h => h) (by kernel_rfl) (Ext.stable _) hCD (yieldsU_val rfl (fun u hu => by go_simp)) ?_
  refine anyU_takeP (i := 20) (j := 30) (v := .int .i64 b) 23 [24, 21] rfl rfl (by kernel_rfl) (by kernel_rfl) (by kernel_rfl) (fun _ _ _ h => h) (by kernel_rfl) (Ext.stable _) hCD (yieldsU_val rfl (fun u hu => by obtain ⟨c0, c1, c2, c3⟩ := (X0.out.bel hu).ints; go_simp)) ?_
  refine anyU_takeP (i := 21) (j := 30) (v := .bool false) 24 [24] rfl rfl (by kernel_rfl) (by kernel_rfl) (by kernel_rfl) (fun _ _ _ h => h) (by kernel_rfl) (Ext.stable _) hCD (yieldsU_call rfl 25 _ _ rfl #[.int .i64 b] (by simp [Act.eval, Act.put]) (fun u => by go_simp) (fun u hu => (val_c b _ u hb.out).mono fun e w' hh => ⟨hh.1, hh.2 ▸ Below.refl _ _⟩)) ?_
  refine anyU_takeP (i := 22) (j := 30) (v := .bool true) 25 [24, 23] rfl rfl (by kernel_rfl) (by kernel_rfl) (by kernel_rfl) (fun _ _ _ h => h) (by kernel_rfl) (Ext.stable _) hCD (yieldsU_val rfl (fun u hu => by go_simp)) ?_
  simp only [Act.put, List.setIfInBounds_toArray, List.set_cons_succ, List.set_cons_zero]
  refine anyU_takeP (i := 23) (j := 30) (v := .bool true) 26 [24] rfl rfl (by kernel_rfl) (by kernel_rfl) (by kernel_rfl) (fun _ _ _ h => h) (by kernel_rfl) (Ext.stable _) hCD (yieldsU_val rfl (fun u hu => by go_simp)) ?_
  refine anyU_takeP (i := 24) (j := 30) (v := .bool true) 27 [] rfl rfl (by kernel_rfl) (by kernel_rfl) (by kernel_rfl) (fun _ _ _ h => h) (by kernel_rfl) (Ext.stable _) hCD (yieldsU_val rfl (fun u hu => by go_simp)) ?_
  simp only [Act.put, List.setIfInBounds_toArray, List.set_cons_succ, List.set_cons_zero]
  refine anyU_takeP (i := 25) (j := 30) (v := undef) 28 [29, 26] rfl rfl (by kernel_rfl) (by kernel_rfl) (by kernel_rfl) (fun _ _ _ h => h) (by kernel_rfl) (Ext.stable _) hCD (.inr ⟨by rfl, rfl⟩) ?_
  refine anyU_takeP (i := 26) (j := 30) (v := undef) 29 [29] rfl rfl (by kernel_rfl) (by kernel_rfl) (by kernel_rfl) (fun _ _ _ h => h) (by kernel_rfl) (Ext.stable _) hCD (.inr ⟨by rfl, rfl⟩) ?_
  refine anyU_takeP (i := 27) (j := 30) (v := undef) 30 [29, 28] rfl rfl (by kernel_rfl) (by kernel_rfl) (by kernel_rfl) (fun _ _ _ h => h) (by kernel_rfl) (Ext.stable _) hCD (.inr ⟨by rfl, rfl⟩) ?_
  refine anyU_takeP (i := 28) (j := 30) (v := undef) 31 [29] rfl rfl (by kernel_rfl) (by kernel_rfl) (by kernel_rfl) (fun _ _ _ h => h) (by kernel_rfl) (Ext.stable _) hCD (.inr ⟨by rfl, rfl⟩) ?_
  refine anyU_takeP (i := 29) (j := 30) (v := undef) 32 [] rfl rfl (by kernel_rfl) (by kernel_rfl) (by kernel_rfl) (fun _ _ _ h => h) (by kernel_rfl) (Ext.stable _) hCD (.inr ⟨by rfl, rfl⟩) ?_
  simp only [Act.put, List.setIfInBounds_toArray, List.set_cons_succ, List.set_cons_zero]
  refine anyU_tail 30 [] rfl rfl (by decide) (by kernel_rfl) ?_
  intro u3 hu3
  simp only [Act.put, List.filterMap_cons, List.filterMap_nil, List.getElem?_cons_succ, List.getElem?_cons_zero]
  have B3 := Lib.hid (bel_trans B0.out hu3)
  clear hu3
  go_wp2_with fail
  go_ret
  exact ⟨rfl, B3.out⟩
set_option maxRecDepth 100000 in
set_option maxHeartbeats 4000000 in
theorem ocheck_y (l k a b : Int) (zs : List Int) (w : World) (hz : Hid (zs.length = 32)) (hl : Hid (lineB l = true)) (hk : Hid (elB k = true)) (ha : Hid (elB a = true)) (hb : Hid (elB b = true)) (hok : Hid (∀ x ∈ intsA [l, k, a, b], x.ok)) (h0 : Hid (KeysAt w)) (ds : List Int) (hd : Hid (IsTag l k a b ds)) (EQ : ∀ w, (Op.equalIn 10000 27 (.agg (bv zs).toArray) (.agg (bv ds).toArray)).run Tryz.prog w = .ok true w) :
    Calls Tryz.prog 46 #[.agg (rtv l k a b zs).toArray] w fun e w' => e = .returned (.int .i64 0) ∧ Below w.heap.size w w' := by
  have X := Lib.hid (RBlk.box w l k a b hz.out)
  have BX := Lib.hid (bel_alloc1 w (.cells (rtv l k a b zs).toArray 29))
  go_enter Tryz.func46, Tryz.ntmps46
  go_upto_region 1 with fail
  refine wp_region_any (by kernel_rfl) ?_
  change wpAny _ _ _ _ _ _ _ (World.drew _)
  generalize hWD : World.drew _ = W
  have X0 := Lib.hid (show RBlk W w.heap.size l k a b zs by rw [← hWD]; exact X.out)
  have B0 := Lib.hid (show Below w.heap.size w W by rw [← hWD]; exact BX.out.drew)
  have HK := Lib.hid (h0.out.below B0.out)
  clear hWD X BX
  have hCD : ∀ u, Ext W u → Ext W u := fun u hu => hu
  refine region_U (D := Ext W) (Ext W) [30] (Ext.refl W) ?_
  refine anyU_takeP (i := 0) (j := 30) (v := .pointer (some ⟨w.heap.size, 0, none⟩)) 3 [24, 23, 17, 16, 10, 9, 4, 2, 1] rfl rfl (by kernel_rfl) (by kernel_rfl) (by kernel_rfl) (fun _ _ _ h => h) (by kernel_rfl) (Ext.stable _) hCD (yieldsU_val rfl (fun u hu => by go_simp)) ?_
  refine anyU_takeP (i := 1) (j := 30) (v := .int .i64 l) 4 [24, 23, 17, 16, 10, 9, 4, 2] rfl rfl (by kernel_rfl) (by kernel_rfl) (by kernel_rfl) (fun _ _ _ h => h) (by kernel_rfl) (Ext.stable _) hCD (yieldsU_val rfl (fun u hu => by obtain ⟨c0, c1, c2, c3⟩ := (X0.out.bel hu).ints; go_simp)) ?_
  refine anyU_takeP (i := 2) (j := 30) (v := .bool true) 5 [24, 23, 17, 16, 10, 9, 4] rfl rfl (by kernel_rfl) (by kernel_rfl) (by kernel_rfl) (fun _ _ _ h => h) (by kernel_rfl) (Ext.stable _) hCD (yieldsU_call rfl 24 _ _ rfl #[.int .i64 l] (by simp [Act.eval, Act.put]) (fun u => by go_simp) (fun u hu => by have h := ovline_any l u; rw [hl.out] at h; exact h.mono fun e w' hh => ⟨hh.1, hh.2 ▸ Below.refl _ _⟩)) ?_
  refine anyU_takeP (i := 3) (j := 30) (v := .bool false) 6 [24, 23, 17, 16, 10, 9, 4] rfl rfl (by kernel_rfl) (by kernel_rfl) (by kernel_rfl) (fun _ _ _ h => h) (by kernel_rfl) (Ext.stable _) hCD (yieldsU_val rfl (fun u hu => by go_simp)) ?_
  refine anyU_takeP (i := 4) (j := 30) (v := .bool false) 7 [24, 23, 17, 16, 10, 9] rfl rfl (by kernel_rfl) (by kernel_rfl) (by kernel_rfl) (fun _ _ _ h => h) (by kernel_rfl) (Ext.stable _) hCD (yieldsU_val rfl (fun u hu => by go_simp)) ?_
  simp only [Act.put, List.setIfInBounds_toArray, List.set_cons_succ, List.set_cons_zero]
  refine anyU_takeP (i := 5) (j := 30) (v := .pointer (some ⟨w.heap.size, 1, none⟩)) 8 [24, 23, 17, 16, 10, 7, 6] rfl rfl (by kernel_rfl) (by kernel_rfl) (by kernel_rfl) (fun _ _ _ h => h) (by kernel_rfl) (Ext.stable _) hCD (yieldsU_val rfl (fun u hu => by go_simp)) ?_
  refine anyU_takeP (i := 6) (j := 30) (v := .int .i64 k) 9 [24, 23, 17, 16, 10, 7] rfl rfl (by kernel_rfl) (by kernel_rfl) (by kernel_rfl) (fun _ _ _ h => h) (by kernel_rfl) (Ext.stable _) hCD (yieldsU_val rfl (fun u hu => by obtain ⟨c0, c1, c2, c3⟩ := (X0.out.bel hu).ints; go_simp)) ?_
  refine anyU_takeP (i := 7) (j := 30) (v := .bool true) 10 [24, 23, 17, 16, 10] rfl rfl (by kernel_rfl) (by kernel_rfl) (by kernel_rfl) (fun _ _ _ h => h) (by kernel_rfl) (Ext.stable _) hCD (yieldsU_call rfl 25 _ _ rfl #[.int .i64 k] (by simp [Act.eval, Act.put]) (fun u => by go_simp) (fun u hu => (val_c k _ u hk.out).mono fun e w' hh => ⟨hh.1, hh.2 ▸ Below.refl _ _⟩)) ?_
  refine anyU_takeP (i := 8) (j := 30) (v := .bool false) 11 [24, 23, 17, 16, 10, 9] rfl rfl (by kernel_rfl) (by kernel_rfl) (by kernel_rfl) (fun _ _ _ h => h) (by kernel_rfl) (Ext.stable _) hCD (yieldsU_val rfl (fun u hu => by go_simp)) ?_
  simp only [Act.put, List.setIfInBounds_toArray, List.set_cons_succ, List.set_cons_zero]
  refine anyU_takeP (i := 9) (j := 30) (v := .bool false) 12 [24, 23, 17, 16, 10] rfl rfl (by kernel_rfl) (by kernel_rfl) (by kernel_rfl) (fun _ _ _ h => h) (by kernel_rfl) (Ext.stable _) hCD (yieldsU_val rfl (fun u hu => by go_simp)) ?_
  refine anyU_takeP (i := 10) (j := 30) (v := .bool false) 13 [24, 23, 17, 16] rfl rfl (by kernel_rfl) (by kernel_rfl) (by kernel_rfl) (fun _ _ _ h => h) (by kernel_rfl) (Ext.stable _) hCD (yieldsU_val rfl (fun u hu => by go_simp)) ?_
  refine anyU_takeP (i := 11) (j := 30) (v := .pointer (some ⟨w.heap.size, 2, none⟩)) 14 [24, 23, 17, 14, 13, 12] rfl rfl (by kernel_rfl) (by kernel_rfl) (by kernel_rfl) (fun _ _ _ h => h) (by kernel_rfl) (Ext.stable _) hCD (yieldsU_val rfl (fun u hu => by go_simp)) ?_
  refine anyU_takeP (i := 12) (j := 30) (v := .pointer (some ⟨w.heap.size, 2, none⟩)) 15 [24, 23, 17, 14, 13] rfl rfl (by kernel_rfl) (by kernel_rfl) (by kernel_rfl) (fun _ _ _ h => h) (by kernel_rfl) (Ext.stable _) hCD (yieldsU_val rfl (fun u hu => by go_simp)) ?_
  refine anyU_takeP (i := 13) (j := 30) (v := .int .i64 a) 16 [24, 23, 17, 14] rfl rfl (by kernel_rfl) (by kernel_rfl) (by kernel_rfl) (fun _ _ _ h => h) (by kernel_rfl) (Ext.stable _) hCD (yieldsU_val rfl (fun u hu => by obtain ⟨c0, c1, c2, c3⟩ := (X0.out.bel hu).ints; go_simp)) ?_
  refine anyU_takeP (i := 14) (j := 30) (v := .bool true) 17 [24, 23, 17] rfl rfl (by kernel_rfl) (by kernel_rfl) (by kernel_rfl) (fun _ _ _ h => h) (by kernel_rfl) (Ext.stable _) hCD (yieldsU_call rfl 25 _ _ rfl #[.int .i64 a] (by simp [Act.eval, Act.put]) (fun u => by go_simp) (fun u hu => (val_c a _ u ha.out).mono fun e w' hh => ⟨hh.1, hh.2 ▸ Below.refl _ _⟩)) ?_
  refine anyU_takeP (i := 15) (j := 30) (v := .bool false) 18 [24, 23, 17, 16] rfl rfl (by kernel_rfl) (by kernel_rfl) (by kernel_rfl) (fun _ _ _ h => h) (by kernel_rfl) (Ext.stable _) hCD (yieldsU_val rfl (fun u hu => by go_simp)) ?_
  simp only [Act.put, List.setIfInBounds_toArray, List.set_cons_succ, List.set_cons_zero]
  refine anyU_takeP (i := 16) (j := 30) (v := .bool false) 19 [24, 23, 17] rfl rfl (by kernel_rfl) (by kernel_rfl) (by kernel_rfl) (fun _ _ _ h => h) (by kernel_rfl) (Ext.stable _) hCD (yieldsU_val rfl (fun u hu => by go_simp)) ?_
  refine anyU_takeP (i := 17) (j := 30) (v := .bool false) 20 [24, 23] rfl rfl (by kernel_rfl) (by kernel_rfl) (by kernel_rfl) (fun _ _ _ h => h) (by kernel_rfl) (Ext.stable _) hCD (yieldsU_val rfl (fun u hu => by go_simp)) ?_
  refine anyU_takeP (i := 18) (j := 30) (v := .pointer (some ⟨w.heap.size, 2, none⟩)) 21 [24, 21, 20, 19] rfl rfl (by kernel_rfl) (by kernel_rfl) (by kernel_rfl) (fun _ _ _ h => h) (by kernel_rfl) (Ext.stable _) hCD (yieldsU_val rfl (fun u hu => by go_simp)) ?_
  refine anyU_takeP (i := 19) (j := 30) (v := .pointer (some ⟨w.heap.size, 3, none⟩)) 22 [24, 21, 20] rfl rfl (by kernel_rfl) (by kernel_rfl) (by kernel_rfl) (fun _ _ _ h => h) (by kernel_rfl) (Ext.stable _) hCD (yieldsU_val rfl (fun u hu => by go_simp)) ?_
  refine anyU_takeP (i := 20) (j := 30) (v := .int .i64 b) 23 [24, 21] rfl rfl (by kernel_rfl) (by kernel_rfl) (by kernel_rfl) (fun _ _ _ h => h) (by kernel_rfl) (Ext.stable _) hCD (yieldsU_val rfl (fun u hu => by obtain ⟨c0, c1, c2, c3⟩ := (X0.out.bel hu).ints; go_simp)) ?_
  refine anyU_takeP (i := 21) (j := 30) (v := .bool true) 24 [24] rfl rfl (by kernel_rfl) (by kernel_rfl) (by kernel_rfl) (fun _ _ _ h => h) (by kernel_rfl) (Ext.stable _) hCD (yieldsU_call rfl 25 _ _ rfl #[.int .i64 b] (by simp [Act.eval, Act.put]) (fun u => by go_simp) (fun u hu => (val_c b _ u hb.out).mono fun e w' hh => ⟨hh.1, hh.2 ▸ Below.refl _ _⟩)) ?_
  refine anyU_takeP (i := 22) (j := 30) (v := .bool false) 25 [24, 23] rfl rfl (by kernel_rfl) (by kernel_rfl) (by kernel_rfl) (fun _ _ _ h => h) (by kernel_rfl) (Ext.stable _) hCD (yieldsU_val rfl (fun u hu => by go_simp)) ?_
  simp only [Act.put, List.setIfInBounds_toArray, List.set_cons_succ, List.set_cons_zero]
  refine anyU_takeP (i := 23) (j := 30) (v := .bool false) 26 [24] rfl rfl (by kernel_rfl) (by kernel_rfl) (by kernel_rfl) (fun _ _ _ h => h) (by kernel_rfl) (Ext.stable _) hCD (yieldsU_val rfl (fun u hu => by go_simp)) ?_
  refine anyU_takeP (i := 24) (j := 30) (v := .bool false) 27 [] rfl rfl (by kernel_rfl) (by kernel_rfl) (by kernel_rfl) (fun _ _ _ h => h) (by kernel_rfl) (Ext.stable _) hCD (yieldsU_val rfl (fun u hu => by go_simp)) ?_
  simp only [Act.put, List.setIfInBounds_toArray, List.set_cons_succ, List.set_cons_zero]
  refine anyU_takeP (i := 25) (j := 30) (v := .pointer (some ⟨w.heap.size, 4, none⟩)) 28 [29, 26] rfl rfl (by kernel_rfl) (by kernel_rfl) (by kernel_rfl) (fun _ _ _ h => h) (by kernel_rfl) (Ext.stable _) hCD (yieldsU_val rfl (fun u hu => by go_simp)) ?_
  refine anyU_takeP (i := 26) (j := 30) (v := .agg (bv zs).toArray) 29 [29] rfl rfl (by kernel_rfl) (by kernel_rfl) (by kernel_rfl) (fun _ _ _ h => h) (by kernel_rfl) (Ext.stable _) hCD (yieldsU_of_C (yields_loadM (by rfl) (.tmp 28) rfl w.heap.size 4 rfl zs hz.out (fun u hu => (X0.out.bel hu).tag))) ?_
  refine anyU_takeP (i := 27) (j := 30) (v := .agg (rtv l k a b zs).toArray) 30 [29, 28] rfl rfl (by kernel_rfl) (by kernel_rfl) (by kernel_rfl) (fun _ _ _ h => h) (by kernel_rfl) (Ext.stable _) hCD (yieldsU_of_C (yields_loadR (by rfl) (.tmp 1) rfl w.heap.size rfl l k a b zs hz.out (fun u hu => X0.out.bel hu))) ?_
  refine anyU_takeP (i := 28) (j := 30) (v := .agg (bv ds).toArray) 31 [29] rfl rfl (by kernel_rfl) (by kernel_rfl) (by kernel_rfl) (fun _ _ _ h => h) (by kernel_rfl) (Ext.stable _) hCD (yieldsU_call rfl 28 _ _ rfl #[.agg (rtv l k a b zs).toArray] (by simp [Act.eval, Act.put]) (fun u => by go_simp) (fun u hu => otag_is l k a b zs u hz hok (Lib.hid (HK.out.below hu)) ds hd)) ?_
  refine anyU_takeP (i := 29) (j := 30) (v := .bool false) 32 [] rfl rfl (by kernel_rfl) (by kernel_rfl) (by kernel_rfl) (fun _ _ _ h => h) (by kernel_rfl) (Ext.stable _) hCD (yieldsU_val rfl (fun u hu => by go_simp)) ?_
  simp only [Act.put, List.setIfInBounds_toArray, List.set_cons_succ, List.set_cons_zero]
  refine anyU_tail 30 [] rfl rfl (by decide) (by kernel_rfl) ?_
  intro u3 hu3
  simp only [Act.put, List.filterMap_cons, List.filterMap_nil, List.getElem?_cons_succ, List.getElem?_cons_zero]
  have B3 := Lib.hid (bel_trans B0.out hu3)
  clear hu3
  go_wp2_with fail
  go_ret
  exact ⟨rfl, B3.out⟩
set_option maxRecDepth 100000 in
set_option maxHeartbeats 4000000 in
theorem ocheck_d (l k a b : Int) (zs : List Int) (w : World) (hz : Hid (zs.length = 32)) (hl : Hid (lineB l = true)) (hk : Hid (elB k = true)) (ha : Hid (elB a = true)) (hb : Hid (elB b = true)) (hok : Hid (∀ x ∈ intsA [l, k, a, b], x.ok)) (h0 : Hid (KeysAt w)) (ds : List Int) (hd : Hid (IsTag l k a b ds)) (EQ : ∀ w, (Op.equalIn 10000 27 (.agg (bv zs).toArray) (.agg (bv ds).toArray)).run Tryz.prog w = .ok false w) :
    Calls Tryz.prog 46 #[.agg (rtv l k a b zs).toArray] w fun e w' => e = .returned (.int .i64 160) ∧ Below w.heap.size w w' := by
  have X := Lib.hid (RBlk.box w l k a b hz.out)
  have BX := Lib.hid (bel_alloc1 w (.cells (rtv l k a b zs).toArray 29))
  go_enter Tryz.func46, Tryz.ntmps46
  go_upto_region 1 with fail
  refine wp_region_any (by kernel_rfl) ?_
  change wpAny _ _ _ _ _ _ _ (World.drew _)
  generalize hWD : World.drew _ = W
  have X0 := Lib.hid (show RBlk W w.heap.size l k a b zs by rw [← hWD]; exact X.out)
  have B0 := Lib.hid (show Below w.heap.size w W by rw [← hWD]; exact BX.out.drew)
  have HK := Lib.hid (h0.out.below B0.out)
  clear hWD X BX
  have hCD : ∀ u, Ext W u → Ext W u := fun u hu => hu
  refine region_U (D := Ext W) (Ext W) [30] (Ext.refl W) ?_
  refine anyU_takeP (i := 0) (j := 30) (v := .pointer (some ⟨w.heap.size, 0, none⟩)) 3 [24, 23, 17, 16, 10, 9, 4, 2, 1] rfl rfl (by kernel_rfl) (by kernel_rfl) (by kernel_rfl) (fun _ _ _ h => h) (by kernel_rfl) (Ext.stable _) hCD (yieldsU_val rfl (fun u hu => by go_simp)) ?_
  refine anyU_takeP (i := 1) (j := 30) (v := .int .i64 l) 4 [24, 23, 17, 16, 10, 9, 4, 2] rfl rfl (by kernel_rfl) (by kernel_rfl) (by kernel_rfl) (fun _ _ _ h => h) (by kernel_rfl) (Ext.stable _) hCD (yieldsU_val rfl (fun u hu => by obtain ⟨c0, c1, c2, c3⟩ := (X0.out.bel hu).ints; go_simp)) ?_
  refine anyU_takeP (i := 2) (j := 30) (v := .bool true) 5 [24, 23, 17, 16, 10, 9, 4] rfl rfl (by kernel_rfl) (by kernel_rfl) (by kernel_rfl) (fun _ _ _ h => h) (by kernel_rfl) (Ext.stable _) hCD (yieldsU_call rfl 24 _ _ rfl #[.int .i64 l] (by simp [Act.eval, Act.put]) (fun u => by go_simp) (fun u hu => by have h := ovline_any l u; rw [hl.out] at h; exact h.mono fun e w' hh => ⟨hh.1, hh.2 ▸ Below.refl _ _⟩)) ?_
  refine anyU_takeP (i := 3) (j := 30) (v := .bool false) 6 [24, 23, 17, 16, 10, 9, 4] rfl rfl (by kernel_rfl) (by kernel_rfl) (by kernel_rfl) (fun _ _ _ h => h) (by kernel_rfl) (Ext.stable _) hCD (yieldsU_val rfl (fun u hu => by go_simp)) ?_
  refine anyU_takeP (i := 4) (j := 30) (v := .bool false) 7 [24, 23, 17, 16, 10, 9] rfl rfl (by kernel_rfl) (by kernel_rfl) (by kernel_rfl) (fun _ _ _ h => h) (by kernel_rfl) (Ext.stable _) hCD (yieldsU_val rfl (fun u hu => by go_simp)) ?_
  simp only [Act.put, List.setIfInBounds_toArray, List.set_cons_succ, List.set_cons_zero]
  refine anyU_takeP (i := 5) (j := 30) (v := .pointer (some ⟨w.heap.size, 1, none⟩)) 8 [24, 23, 17, 16, 10, 7, 6] rfl rfl (by kernel_rfl) (by kernel_rfl) (by kernel_rfl) (fun _ _ _ h => h) (by kernel_rfl) (Ext.stable _) hCD (yieldsU_val rfl (fun u hu => by go_simp)) ?_
  refine anyU_takeP (i := 6) (j := 30) (v := .int .i64 k) 9 [24, 23, 17, 16, 10, 7] rfl rfl (by kernel_rfl) (by kernel_rfl) (by kernel_rfl) (fun _ _ _ h => h) (by kernel_rfl) (Ext.stable _) hCD (yieldsU_val rfl (fun u hu => by obtain ⟨c0, c1, c2, c3⟩ := (X0.out.bel hu).ints; go_simp)) ?_
  refine anyU_takeP (i := 7) (j := 30) (v := .bool true) 10 [24, 23, 17, 16, 10] rfl rfl (by kernel_rfl) (by kernel_rfl) (by kernel_rfl) (fun _ _ _ h => h) (by kernel_rfl) (Ext.stable _) hCD (yieldsU_call rfl 25 _ _ rfl #[.int .i64 k] (by simp [Act.eval, Act.put]) (fun u => by go_simp) (fun u hu => (val_c k _ u hk.out).mono fun e w' hh => ⟨hh.1, hh.2 ▸ Below.refl _ _⟩)) ?_
  refine anyU_takeP (i := 8) (j := 30) (v := .bool false) 11 [24, 23, 17, 16, 10, 9] rfl rfl (by kernel_rfl) (by kernel_rfl) (by kernel_rfl) (fun _ _ _ h => h) (by kernel_rfl) (Ext.stable _) hCD (yieldsU_val rfl (fun u hu => by go_simp)) ?_
  simp only [Act.put, List.setIfInBounds_toArray, List.set_cons_succ, List.set_cons_zero]
  refine anyU_takeP (i := 9) (j := 30) (v := .bool false) 12 [24, 23, 17, 16, 10] rfl rfl (by kernel_rfl) (by kernel_rfl) (by kernel_rfl) (fun _ _ _ h => h) (by kernel_rfl) (Ext.stable _) hCD (yieldsU_val rfl (fun u hu => by go_simp)) ?_
  refine anyU_takeP (i := 10) (j := 30) (v := .bool false) 13 [24, 23, 17, 16] rfl rfl (by kernel_rfl) (by kernel_rfl) (by kernel_rfl) (fun _ _ _ h => h) (by kernel_rfl) (Ext.stable _) hCD (yieldsU_val rfl (fun u hu => by go_simp)) ?_
  refine anyU_takeP (i := 11) (j := 30) (v := .pointer (some ⟨w.heap.size, 2, none⟩)) 14 [24, 23, 17, 14, 13, 12] rfl rfl (by kernel_rfl) (by kernel_rfl) (by kernel_rfl) (fun _ _ _ h => h) (by kernel_rfl) (Ext.stable _) hCD (yieldsU_val rfl (fun u hu => by go_simp)) ?_
  refine anyU_takeP (i := 12) (j := 30) (v := .pointer (some ⟨w.heap.size, 2, none⟩)) 15 [24, 23, 17, 14, 13] rfl rfl (by kernel_rfl) (by kernel_rfl) (by kernel_rfl) (fun _ _ _ h => h) (by kernel_rfl) (Ext.stable _) hCD (yieldsU_val rfl (fun u hu => by go_simp)) ?_
  refine anyU_takeP (i := 13) (j := 30) (v := .int .i64 a) 16 [24, 23, 17, 14] rfl rfl (by kernel_rfl) (by kernel_rfl) (by kernel_rfl) (fun _ _ _ h => h) (by kernel_rfl) (Ext.stable _) hCD (yieldsU_val rfl (fun u hu => by obtain ⟨c0, c1, c2, c3⟩ := (X0.out.bel hu).ints; go_simp)) ?_
  refine anyU_takeP (i := 14) (j := 30) (v := .bool true) 17 [24, 23, 17] rfl rfl (by kernel_rfl) (by kernel_rfl) (by kernel_rfl) (fun _ _ _ h => h) (by kernel_rfl) (Ext.stable _) hCD (yieldsU_call rfl 25 _ _ rfl #[.int .i64 a] (by simp [Act.eval, Act.put]) (fun u => by go_simp) (fun u hu => (val_c a _ u ha.out).mono fun e w' hh => ⟨hh.1, hh.2 ▸ Below.refl _ _⟩)) ?_
  refine anyU_takeP (i := 15) (j := 30) (v := .bool false) 18 [24, 23, 17, 16] rfl rfl (by kernel_rfl) (by kernel_rfl) (by kernel_rfl) (fun _ _ _ h => h) (by kernel_rfl) (Ext.stable _) hCD (yieldsU_val rfl (fun u hu => by go_simp)) ?_
  simp only [Act.put, List.setIfInBounds_toArray, List.set_cons_succ, List.set_cons_zero]
  refine anyU_takeP (i := 16) (j := 30) (v := .bool false) 19 [24, 23, 17] rfl rfl (by kernel_rfl) (by kernel_rfl) (by kernel_rfl) (fun _ _ _ h => h) (by kernel_rfl) (Ext.stable _) hCD (yieldsU_val rfl (fun u hu => by go_simp)) ?_
  refine anyU_takeP (i := 17) (j := 30) (v := .bool false) 20 [24, 23] rfl rfl (by kernel_rfl) (by kernel_rfl) (by kernel_rfl) (fun _ _ _ h => h) (by kernel_rfl) (Ext.stable _) hCD (yieldsU_val rfl (fun u hu => by go_simp)) ?_
  refine anyU_takeP (i := 18) (j := 30) (v := .pointer (some ⟨w.heap.size, 2, none⟩)) 21 [24, 21, 20, 19] rfl rfl (by kernel_rfl) (by kernel_rfl) (by kernel_rfl) (fun _ _ _ h => h) (by kernel_rfl) (Ext.stable _) hCD (yieldsU_val rfl (fun u hu => by go_simp)) ?_
  refine anyU_takeP (i := 19) (j := 30) (v := .pointer (some ⟨w.heap.size, 3, none⟩)) 22 [24, 21, 20] rfl rfl (by kernel_rfl) (by kernel_rfl) (by kernel_rfl) (fun _ _ _ h => h) (by kernel_rfl) (Ext.stable _) hCD (yieldsU_val rfl (fun u hu => by go_simp)) ?_
  refine anyU_takeP (i := 20) (j := 30) (v := .int .i64 b) 23 [24, 21] rfl rfl (by kernel_rfl) (by kernel_rfl) (by kernel_rfl) (fun _ _ _ h => h) (by kernel_rfl) (Ext.stable _) hCD (yieldsU_val rfl (fun u hu => by obtain ⟨c0, c1, c2, c3⟩ := (X0.out.bel hu).ints; go_simp)) ?_
  refine anyU_takeP (i := 21) (j := 30) (v := .bool true) 24 [24] rfl rfl (by kernel_rfl) (by kernel_rfl) (by kernel_rfl) (fun _ _ _ h => h) (by kernel_rfl) (Ext.stable _) hCD (yieldsU_call rfl 25 _ _ rfl #[.int .i64 b] (by simp [Act.eval, Act.put]) (fun u => by go_simp) (fun u hu => (val_c b _ u hb.out).mono fun e w' hh => ⟨hh.1, hh.2 ▸ Below.refl _ _⟩)) ?_
  refine anyU_takeP (i := 22) (j := 30) (v := .bool false) 25 [24, 23] rfl rfl (by kernel_rfl) (by kernel_rfl) (by kernel_rfl) (fun _ _ _ h => h) (by kernel_rfl) (Ext.stable _) hCD (yieldsU_val rfl (fun u hu => by go_simp)) ?_
  simp only [Act.put, List.setIfInBounds_toArray, List.set_cons_succ, List.set_cons_zero]
  refine anyU_takeP (i := 23) (j := 30) (v := .bool false) 26 [24] rfl rfl (by kernel_rfl) (by kernel_rfl) (by kernel_rfl) (fun _ _ _ h => h) (by kernel_rfl) (Ext.stable _) hCD (yieldsU_val rfl (fun u hu => by go_simp)) ?_
  refine anyU_takeP (i := 24) (j := 30) (v := .bool false) 27 [] rfl rfl (by kernel_rfl) (by kernel_rfl) (by kernel_rfl) (fun _ _ _ h => h) (by kernel_rfl) (Ext.stable _) hCD (yieldsU_val rfl (fun u hu => by go_simp)) ?_
  simp only [Act.put, List.setIfInBounds_toArray, List.set_cons_succ, List.set_cons_zero]
  refine anyU_takeP (i := 25) (j := 30) (v := .pointer (some ⟨w.heap.size, 4, none⟩)) 28 [29, 26] rfl rfl (by kernel_rfl) (by kernel_rfl) (by kernel_rfl) (fun _ _ _ h => h) (by kernel_rfl) (Ext.stable _) hCD (yieldsU_val rfl (fun u hu => by go_simp)) ?_
  refine anyU_takeP (i := 26) (j := 30) (v := .agg (bv zs).toArray) 29 [29] rfl rfl (by kernel_rfl) (by kernel_rfl) (by kernel_rfl) (fun _ _ _ h => h) (by kernel_rfl) (Ext.stable _) hCD (yieldsU_of_C (yields_loadM (by rfl) (.tmp 28) rfl w.heap.size 4 rfl zs hz.out (fun u hu => (X0.out.bel hu).tag))) ?_
  refine anyU_takeP (i := 27) (j := 30) (v := .agg (rtv l k a b zs).toArray) 30 [29, 28] rfl rfl (by kernel_rfl) (by kernel_rfl) (by kernel_rfl) (fun _ _ _ h => h) (by kernel_rfl) (Ext.stable _) hCD (yieldsU_of_C (yields_loadR (by rfl) (.tmp 1) rfl w.heap.size rfl l k a b zs hz.out (fun u hu => X0.out.bel hu))) ?_
  refine anyU_takeP (i := 28) (j := 30) (v := .agg (bv ds).toArray) 31 [29] rfl rfl (by kernel_rfl) (by kernel_rfl) (by kernel_rfl) (fun _ _ _ h => h) (by kernel_rfl) (Ext.stable _) hCD (yieldsU_call rfl 28 _ _ rfl #[.agg (rtv l k a b zs).toArray] (by simp [Act.eval, Act.put]) (fun u => by go_simp) (fun u hu => otag_is l k a b zs u hz hok (Lib.hid (HK.out.below hu)) ds hd)) ?_
  refine anyU_takeP (i := 29) (j := 30) (v := .bool true) 32 [] rfl rfl (by kernel_rfl) (by kernel_rfl) (by kernel_rfl) (fun _ _ _ h => h) (by kernel_rfl) (Ext.stable _) hCD (yieldsU_val rfl (fun u hu => by go_simp)) ?_
  simp only [Act.put, List.setIfInBounds_toArray, List.set_cons_succ, List.set_cons_zero]
  refine anyU_tail 30 [] rfl rfl (by decide) (by kernel_rfl) ?_
  intro u3 hu3
  simp only [Act.put, List.filterMap_cons, List.filterMap_nil, List.getElem?_cons_succ, List.getElem?_cons_zero]
  have B3 := Lib.hid (bel_trans B0.out hu3)
  clear hu3
  go_wp2_with fail
  go_ret
  exact ⟨rfl, B3.out⟩
theorem ocheck_any (l k a b : Int) (zs : List Int) (E : Int) (w : World) (hz : Hid (zs.length = 32)) (hE : Hid (IsRC l k a b zs E)) (h0 : Hid (KeysAt w)) :
    Calls Tryz.prog 46 #[.agg (rtv l k a b zs).toArray] w fun e w' => e = .returned (.int .i64 E) ∧ Below w.heap.size w w' := by
  rcases hE.out with ⟨h, rfl⟩ | ⟨h, ds, hd, hh⟩
  · cases h1 : lineB l with
    | false => exact ocheck_n0 l k a b zs w hz (Lib.hid h1)
    | true => cases h2 : elB k with
      | false => exact ocheck_n1 l k a b zs w hz (Lib.hid h1) (Lib.hid h2)
      | true => cases h3 : elB a with
        | false => exact ocheck_n2 l k a b zs w hz (Lib.hid h1) (Lib.hid h2) (Lib.hid h3)
        | true => cases h4 : elB b with
          | false => exact ocheck_n3 l k a b zs w hz (Lib.hid h1) (Lib.hid h2) (Lib.hid h3) (Lib.hid h4)
          | true => exact absurd (partB_iff.2 ⟨h1, h2, h3, h4⟩) (by rw [h]; simp)
  · obtain ⟨h1, h2, h3, h4⟩ := partB_iff.1 h
    rcases hh with ⟨rfl, rfl⟩ | ⟨hne, rfl⟩
    · exact ocheck_y l k a b zs w hz (Lib.hid h1) (Lib.hid h2) (Lib.hid h3) (Lib.hid h4) (Lib.hid (part_ok h)) h0 zs (Lib.hid hd) (fun w => by rw [eqDig_any zs zs hz.out hz.out w]; simp)
    · exact ocheck_d l k a b zs w hz (Lib.hid h1) (Lib.hid h2) (Lib.hid h3) (Lib.hid h4) (Lib.hid (part_ok h)) h0 ds (Lib.hid hd) (fun w => by rw [eqDig_any zs ds hz.out hd.len w]; simp [hne])
end Go.Proofs.YtpjobllfiimdkaaGreatDoor
