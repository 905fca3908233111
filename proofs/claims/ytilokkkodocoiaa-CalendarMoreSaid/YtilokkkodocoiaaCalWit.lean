/- The law's within: a filtered list is a part. -/
import Derived.Test.YtilokkkodocoiaaCalMr
import Derived.Test.YtilokkkodocoiaaCalSm
namespace Go.Proofs.Ytilokkkodocoiaa
open Go.RowKit
set_option linter.unusedVariables false
set_option linter.unusedSimpArgs false
theorem drop_getD {L : List Int} {k : Nat} {y : Int} (hk : k < L.length) (hy : L.getD k 0 = y) : L.drop k = y :: L.drop (k + 1) := by
  rw [List.drop_eq_getElem_cons hk]
  rw [List.getD_eq_getElem?_getD, List.getElem?_eq_getElem hk] at hy
  have hy : L[k] = y := hy
  rw [hy]
set_option maxRecDepth 100000 in
set_option maxHeartbeats 4000000 in
theorem within_is (p q : Option Addr) (n c m d : Nat) (zs ys : List Int) (f : Int → Bool) (w : World) (hz : Hid (IntsV w p n c zs)) (hy : Hid (IntsV w q m d ys)) (hn : n ≤ 100000) (hm : m ≤ 100000) (hf : Hid (zs = ys.filter f)) :
    Calls Try.prog 18 #[.slice p n c, .slice q m d] w fun e w' => e = .returned (.bool true) ∧ Below w.heap.size w w' := by
  have hnc := hz.out.nc
  have hcm := hz.out.cm
  have hmd := hy.out.nc
  have hdm := hy.out.cm
  go_enter Try.func18, Try.ntmps18
  go_wp2_with fail
  go_loopw [5, 6] (fun at' i wr => ∃ (h k : Nat), h ≤ n ∧ k ≤ m ∧ at' = .int .i64 (h : Int) ∧ i = .int .i64 (k : Int) ∧ Hid (zs.drop h = (ys.drop k).filter f) ∧ Hid (Below w.heap.size w wr)) (fun _ i _ => m - (intOf i).toNat)
  case atStart => exact ⟨0, 0, by omega, by omega, by simp, by simp, Lib.hid (by rw [List.drop_zero, List.drop_zero]; exact hf.out), Lib.hid (Below.refl _ w)⟩
  case round =>
    obtain ⟨h, k, hh, hk, rfl, rfl, HD, HB⟩ := hrel
    rename World => wr
    by_cases hkm : k < m
    · have d1 : decide ((k : Int) < (m : Int)) = true := decide_eq_true (by omega)
      by_cases hhn : h < n
      · have d2 : decide ((h : Int) < (n : Int)) = true := decide_eq_true (by omega)
        obtain ⟨b, off, hp, hb, cx⟩ := (hz.out.below HB.out).at hhn
        obtain ⟨b2, off2, hp2, hb2, cy⟩ := (hy.out.below HB.out).at hkm
        obtain ⟨x, hx⟩ : ∃ x, zs.getD h 0 = x := ⟨_, rfl⟩
        obtain ⟨y, hyy⟩ : ∃ y, ys.getD k 0 = y := ⟨_, rfl⟩
        rw [hx] at cx
        rw [hyy] at cy
        have e1 := drop_getD (by have := hz.out.len; omega) hx
        have e2 := drop_getD (by have := hy.out.len; omega) hyy
        have e3 := HD.out
        rw [e1, e2, List.filter_cons] at e3
        have hcase : (x = y ∧ Hid (zs.drop (h + 1) = (ys.drop (k + 1)).filter f)) ∨ (¬ x = y ∧ Hid (zs.drop h = (ys.drop (k + 1)).filter f)) := by
          cases hfy : f y with
          | true =>
            rw [hfy, if_pos rfl] at e3
            injection e3 with e4 e5
            exact .inl ⟨e4, Lib.hid e5⟩
          | false =>
            rw [hfy, if_neg (by simp)] at e3
            refine .inr ⟨fun hxy => ?_, Lib.hid (by rw [e1]; exact e3)⟩
            have hm2 : x ∈ (ys.drop (k + 1)).filter f := by rw [← e3]; exact List.mem_cons_self
            rw [hxy] at hm2
            have := (List.mem_filter.1 hm2).2
            rw [hfy] at this; cases this
        clear e1 e2 e3 hx hyy
        subst hp hp2
        rcases hcase with ⟨hxy, HD2⟩ | ⟨hxy, HD2⟩
        · have t1 : (x == y) = true := by simpa using hxy
          have t2 : decide (x = y) = true := decide_eq_true hxy
          clear hxy
          go_upto_region 5 with fail
          refine wp_region_any (by kernel_rfl) ?_
          change wpAny _ _ _ _ _ _ _ (World.drew _)
          generalize hWD : World.drew _ = V
          have BV := Lib.hid (show Below w.heap.size w V by rw [← hWD]; exact HB.out.drew)
          have CX := Lib.hid (show V.cell? ⟨b, off + h, none⟩ = some (.int .i64 x) by rw [← hWD]; exact cx)
          have CY := Lib.hid (show V.cell? ⟨b2, off2 + k, none⟩ = some (.int .i64 y) by rw [← hWD]; exact cy)
          have hbV : b < V.heap.size := by rw [← hWD]; exact hb
          have hb2V : b2 < V.heap.size := by rw [← hWD]; exact hb2
          clear hWD cx cy
          have hCD : ∀ u, Ext V u → Ext V u := fun u hu => hu
          refine region_U (D := Ext V) (Ext V) [8] (Ext.refl V) ?_
          refine anyU_takeP (i := 0) (j := 8) (v := .slice (some ⟨b, off, none⟩) n c) 19 [3, 2] rfl rfl (by kernel_rfl) (by kernel_rfl) (by kernel_rfl) (fun _ _ _ h => h) (by kernel_rfl) (Ext.stable _) hCD (yieldsU_val rfl (fun u hu => by go_simp)) ?_
          refine anyU_takeP (i := 1) (j := 8) (v := .int .i64 (h : Int)) 20 [3, 2] rfl rfl (by kernel_rfl) (by kernel_rfl) (by kernel_rfl) (fun _ _ _ h => h) (by kernel_rfl) (Ext.stable _) hCD (yieldsU_val rfl (fun u hu => by go_simp)) ?_
          refine anyU_takeP (i := 2) (j := 8) (v := .pointer (some ⟨b, off + h, none⟩)) 21 [3] rfl rfl (by kernel_rfl) (by kernel_rfl) (by kernel_rfl) (fun _ _ _ h => h) (by kernel_rfl) (Ext.stable _) hCD (yieldsU_val rfl (fun u hu => by go_simp)) ?_
          refine anyU_takeP (i := 3) (j := 8) (v := .int .i64 x) 22 [] rfl rfl (by kernel_rfl) (by kernel_rfl) (by kernel_rfl) (fun _ _ _ h => h) (by kernel_rfl) (Ext.stable _) hCD (yieldsU_val rfl (fun u hu => by have cc := (hu.cell (p := ⟨b, off + h, none⟩) hbV).trans CX.out; go_simp)) ?_
          simp only [Act.put, List.setIfInBounds_toArray, List.set_cons_succ, List.set_cons_zero]
          refine anyU_takeP (i := 4) (j := 8) (v := .slice (some ⟨b2, off2, none⟩) m d) 23 [7, 6] rfl rfl (by kernel_rfl) (by kernel_rfl) (by kernel_rfl) (fun _ _ _ h => h) (by kernel_rfl) (Ext.stable _) hCD (yieldsU_val rfl (fun u hu => by go_simp)) ?_
          refine anyU_takeP (i := 5) (j := 8) (v := .int .i64 (k : Int)) 24 [7, 6] rfl rfl (by kernel_rfl) (by kernel_rfl) (by kernel_rfl) (fun _ _ _ h => h) (by kernel_rfl) (Ext.stable _) hCD (yieldsU_val rfl (fun u hu => by go_simp)) ?_
          refine anyU_takeP (i := 6) (j := 8) (v := .pointer (some ⟨b2, off2 + k, none⟩)) 25 [7] rfl rfl (by kernel_rfl) (by kernel_rfl) (by kernel_rfl) (fun _ _ _ h => h) (by kernel_rfl) (Ext.stable _) hCD (yieldsU_val rfl (fun u hu => by go_simp)) ?_
          refine anyU_takeP (i := 7) (j := 8) (v := .int .i64 y) 26 [] rfl rfl (by kernel_rfl) (by kernel_rfl) (by kernel_rfl) (fun _ _ _ h => h) (by kernel_rfl) (Ext.stable _) hCD (yieldsU_val rfl (fun u hu => by have cc := (hu.cell (p := ⟨b2, off2 + k, none⟩) hb2V).trans CY.out; go_simp)) ?_
          simp only [Act.put, List.setIfInBounds_toArray, List.set_cons_succ, List.set_cons_zero]
          refine anyU_tail 8 [] rfl rfl (by decide) (by kernel_rfl) ?_
          intro u hu
          simp only [Act.put, List.filterMap_cons, List.filterMap_nil, List.getElem?_cons_succ, List.getElem?_cons_zero]
          have BU := Lib.hid (bel_trans BV.out hu)
          clear hu CX CY BV
          go_wp2_with fail
          go_roundw
          case rel => exact ⟨h + 1, k + 1, by omega, by omega, by simp, by simp, HD2, BU⟩
          case measure => simp [intOf]; omega
        · have t1 : (x == y) = false := by simpa using hxy
          have t2 : decide (x = y) = false := decide_eq_false hxy
          clear hxy
          go_upto_region 5 with fail
          refine wp_region_any (by kernel_rfl) ?_
          change wpAny _ _ _ _ _ _ _ (World.drew _)
          generalize hWD : World.drew _ = V
          have BV := Lib.hid (show Below w.heap.size w V by rw [← hWD]; exact HB.out.drew)
          have CX := Lib.hid (show V.cell? ⟨b, off + h, none⟩ = some (.int .i64 x) by rw [← hWD]; exact cx)
          have CY := Lib.hid (show V.cell? ⟨b2, off2 + k, none⟩ = some (.int .i64 y) by rw [← hWD]; exact cy)
          have hbV : b < V.heap.size := by rw [← hWD]; exact hb
          have hb2V : b2 < V.heap.size := by rw [← hWD]; exact hb2
          clear hWD cx cy
          have hCD : ∀ u, Ext V u → Ext V u := fun u hu => hu
          refine region_U (D := Ext V) (Ext V) [8] (Ext.refl V) ?_
          refine anyU_takeP (i := 0) (j := 8) (v := .slice (some ⟨b, off, none⟩) n c) 19 [3, 2] rfl rfl (by kernel_rfl) (by kernel_rfl) (by kernel_rfl) (fun _ _ _ h => h) (by kernel_rfl) (Ext.stable _) hCD (yieldsU_val rfl (fun u hu => by go_simp)) ?_
          refine anyU_takeP (i := 1) (j := 8) (v := .int .i64 (h : Int)) 20 [3, 2] rfl rfl (by kernel_rfl) (by kernel_rfl) (by kernel_rfl) (fun _ _ _ h => h) (by kernel_rfl) (Ext.stable _) hCD (yieldsU_val rfl (fun u hu => by go_simp)) ?_
          refine anyU_takeP (i := 2) (j := 8) (v := .pointer (some ⟨b, off + h, none⟩)) 21 [3] rfl rfl (by kernel_rfl) (by kernel_rfl) (by kernel_rfl) (fun _ _ _ h => h) (by kernel_rfl) (Ext.stable _) hCD (yieldsU_val rfl (fun u hu => by go_simp)) ?_
          refine anyU_takeP (i := 3) (j := 8) (v := .int .i64 x) 22 [] rfl rfl (by kernel_rfl) (by kernel_rfl) (by kernel_rfl) (fun _ _ _ h => h) (by kernel_rfl) (Ext.stable _) hCD (yieldsU_val rfl (fun u hu => by have cc := (hu.cell (p := ⟨b, off + h, none⟩) hbV).trans CX.out; go_simp)) ?_
          simp only [Act.put, List.setIfInBounds_toArray, List.set_cons_succ, List.set_cons_zero]
          refine anyU_takeP (i := 4) (j := 8) (v := .slice (some ⟨b2, off2, none⟩) m d) 23 [7, 6] rfl rfl (by kernel_rfl) (by kernel_rfl) (by kernel_rfl) (fun _ _ _ h => h) (by kernel_rfl) (Ext.stable _) hCD (yieldsU_val rfl (fun u hu => by go_simp)) ?_
          refine anyU_takeP (i := 5) (j := 8) (v := .int .i64 (k : Int)) 24 [7, 6] rfl rfl (by kernel_rfl) (by kernel_rfl) (by kernel_rfl) (fun _ _ _ h => h) (by kernel_rfl) (Ext.stable _) hCD (yieldsU_val rfl (fun u hu => by go_simp)) ?_
          refine anyU_takeP (i := 6) (j := 8) (v := .pointer (some ⟨b2, off2 + k, none⟩)) 25 [7] rfl rfl (by kernel_rfl) (by kernel_rfl) (by kernel_rfl) (fun _ _ _ h => h) (by kernel_rfl) (Ext.stable _) hCD (yieldsU_val rfl (fun u hu => by go_simp)) ?_
          refine anyU_takeP (i := 7) (j := 8) (v := .int .i64 y) 26 [] rfl rfl (by kernel_rfl) (by kernel_rfl) (by kernel_rfl) (fun _ _ _ h => h) (by kernel_rfl) (Ext.stable _) hCD (yieldsU_val rfl (fun u hu => by have cc := (hu.cell (p := ⟨b2, off2 + k, none⟩) hb2V).trans CY.out; go_simp)) ?_
          simp only [Act.put, List.setIfInBounds_toArray, List.set_cons_succ, List.set_cons_zero]
          refine anyU_tail 8 [] rfl rfl (by decide) (by kernel_rfl) ?_
          intro u hu
          simp only [Act.put, List.filterMap_cons, List.filterMap_nil, List.getElem?_cons_succ, List.getElem?_cons_zero]
          have BU := Lib.hid (bel_trans BV.out hu)
          clear hu CX CY BV
          go_wp2_with fail
          go_roundw
          case rel => exact ⟨h, k + 1, by omega, by omega, by simp, by simp, HD2, BU⟩
          case measure => simp [intOf]; omega
      · have d2 : decide ((h : Int) < (n : Int)) = false := decide_eq_false (by omega)
        have hhe : h = n := by omega
        subst hhe
        go_wp2_with fail
        go_ret
        exact ⟨by simp, HB.out⟩
    · have d1 : decide ((k : Int) < (m : Int)) = false := decide_eq_false (by omega)
      have hhe : h = n := by
        have e := HD.out
        rw [List.drop_of_length_le (l := ys) (by have := hy.out.len; omega)] at e
        have e2 := congrArg List.length e
        rw [List.length_drop] at e2
        simp at e2
        have := hz.out.len
        omega
      subst hhe
      go_wp2_with fail
      go_ret
      exact ⟨by simp, HB.out⟩
end Go.Proofs.Ytilokkkodocoiaa
