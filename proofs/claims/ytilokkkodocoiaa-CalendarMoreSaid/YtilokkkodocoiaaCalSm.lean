/- The reference: Same. -/
import Derived.Test.YtilokkkodocoiaaCalRMo
import Derived.Test.YtilokkkodocoiaaRegP
namespace Go.Proofs.Ytilokkkodocoiaa
open Go.RowKit
set_option linter.unusedVariables false
set_option linter.unusedSimpArgs false

/-- a slice of ints as an argument -/
structure IntsV (w : World) (p : Option Addr) (n c : Nat) (zs : List Int) : Prop where
  len : n = zs.length
  nc : n ≤ c
  cm : c ≤ 9223372036854775807
  row : n = 0 ∨ ∃ b off, p = some ⟨b, off, none⟩ ∧ b < w.heap.size ∧ IntsAt w b off zs
theorem IntsV.below {w w' : World} {p : Option Addr} {n c : Nat} {zs : List Int} (h : IntsV w p n c zs) (k : Below w.heap.size w w') : IntsV w' p n c zs :=
  ⟨h.len, h.nc, h.cm, h.row.imp id (fun ⟨b, off, e, hb, ha⟩ => ⟨b, off, e, Nat.lt_of_lt_of_le hb k.size, fun j hj => (k.cell (p := ⟨b, off + j, none⟩) hb).trans (ha j hj)⟩)⟩
theorem IntsV.at {w : World} {p : Option Addr} {n c : Nat} {zs : List Int} (h : IntsV w p n c zs) {i : Nat} (hi : i < n) : ∃ b off, p = some ⟨b, off, none⟩ ∧ b < w.heap.size ∧ w.cell? ⟨b, off + i, none⟩ = some (.int .i64 (zs.getD i 0)) := by
  have hl := h.len
  rcases h.row with h0 | ⟨b, off, rfl, hb, ha⟩
  · omega
  · exact ⟨b, off, rfl, hb, ha i (by omega)⟩
theorem ownI_ints {w : World} {B : Nat} {v : Value} {zs : List Int} (h : OwnI w B v zs) : ∃ p c, v = .slice p zs.length c ∧ IntsV w p zs.length c zs := by
  obtain ⟨p, c, hv, hz, h1, h2, _⟩ := ownI_src h
  refine ⟨p, c, hv, rfl, h1, by unfold maxLen at h2; omega, ?_⟩
  obtain ⟨hm, ⟨_, h0, _⟩ | ⟨b, off, e, hb, hc⟩⟩ := hz
  · exact .inl h0
  · exact .inr ⟨b, off, e, hb, hc⟩
set_option maxRecDepth 100000 in
set_option maxHeartbeats 4000000 in
theorem rsame_is (p q : Option Addr) (n c m d : Nat) (zs ys : List Int) (v : Bool) (w : World) (hz : Hid (IntsV w p n c zs)) (hy : Hid (IntsV w q m d ys)) (hn : n ≤ 100000) (hm : m ≤ 100000) (hv : Hid (decide (zs = ys) = v)) :
    Calls Try.prog 14 #[.slice p n c, .slice q m d] w fun e w' => e = .returned (.bool v) ∧ Below w.heap.size w w' := by
  have hnc := hz.out.nc
  have hcm := hz.out.cm
  have hmd := hy.out.nc
  have hdm := hy.out.cm
  by_cases hnm : n = m
  case neg =>
    have HV := Lib.hid (show v = false by
      rw [← hv.out]; exact decide_eq_false (fun e => hnm (by rw [hz.out.len, hy.out.len, e])))
    have hd1 : decide ((n : Int) = (m : Int)) = false := decide_eq_false (by omega)
    have hd2 : ((n : Int) == (m : Int)) = false := by simp; omega
    go_enter Try.func14, Try.ntmps14
    go_wp2_with fail
    go_ret
    rw [HV.out]
    exact ⟨rfl, Below.refl _ w⟩
  subst hnm
  go_enter Try.func14, Try.ntmps14
  go_wp2_with fail
  go_loopw [5] (fun i wr => ∃ k : Nat, k ≤ n ∧ i = .int .i64 (k : Int) ∧ Hid (∀ j, j < k → zs.getD j 0 = ys.getD j 0) ∧ Hid (Below w.heap.size w wr)) (fun i _ => n - (intOf i).toNat)
  case atStart => exact ⟨0, by omega, by simp, Lib.hid (fun j hj => absurd hj (by omega)), Lib.hid (Below.refl _ w)⟩
  case round =>
    obtain ⟨k, hk, rfl, HA, HB⟩ := hrel
    by_cases hlt : k < n
    · obtain ⟨b, off, hp, hb, cx⟩ := (hz.out.below HB.out).at hlt
      obtain ⟨b2, off2, hp2, hb2, cy⟩ := (hy.out.below HB.out).at hlt
      obtain ⟨x, hx⟩ : ∃ x, zs.getD k 0 = x := ⟨_, rfl⟩
      obtain ⟨y, hyy⟩ : ∃ y, ys.getD k 0 = y := ⟨_, rfl⟩
      rw [hx] at cx
      rw [hyy] at cy
      have HX := Lib.hid hx
      have HY := Lib.hid hyy
      clear hx hyy
      subst hp
      subst hp2
      go_upto_region 6 with fail
      refine wp_region_any (by kernel_rfl) ?_
      change wpAny _ _ _ _ _ _ _ (World.drew _)
      generalize hWD : World.drew _ = V
      have BV := Lib.hid (show Below w.heap.size w V by rw [← hWD]; exact HB.out.drew)
      have CX := Lib.hid (show V.cell? ⟨b, off + k, none⟩ = some (.int .i64 x) by rw [← hWD]; exact cx)
      have CY := Lib.hid (show V.cell? ⟨b2, off2 + k, none⟩ = some (.int .i64 y) by rw [← hWD]; exact cy)
      have hbV : b < V.heap.size := by rw [← hWD]; exact hb
      have hb2V : b2 < V.heap.size := by rw [← hWD]; exact hb2
      clear hWD cx cy
      have hCD : ∀ u, Ext V u → Ext V u := fun u hu => hu
      refine region_U (D := Ext V) (Ext V) [8] (Ext.refl V) ?_
      refine anyU_takeP (i := 0) (j := 8) (v := .slice (some ⟨b, off, none⟩) n c) 17 [3, 2] rfl rfl (by kernel_rfl) (by kernel_rfl) (by kernel_rfl) (fun _ _ _ h => h) (by kernel_rfl) (Ext.stable _) hCD (yieldsU_val rfl (fun u hu => by go_simp)) ?_
      refine anyU_takeP (i := 1) (j := 8) (v := .int .i64 (k : Int)) 18 [3, 2] rfl rfl (by kernel_rfl) (by kernel_rfl) (by kernel_rfl) (fun _ _ _ h => h) (by kernel_rfl) (Ext.stable _) hCD (yieldsU_val rfl (fun u hu => by go_simp)) ?_
      refine anyU_takeP (i := 2) (j := 8) (v := .pointer (some ⟨b, off + k, none⟩)) 19 [3] rfl rfl (by kernel_rfl) (by kernel_rfl) (by kernel_rfl) (fun _ _ _ h => h) (by kernel_rfl) (Ext.stable _) hCD (yieldsU_val rfl (fun u hu => by go_simp)) ?_
      refine anyU_takeP (i := 3) (j := 8) (v := .int .i64 x) 20 [] rfl rfl (by kernel_rfl) (by kernel_rfl) (by kernel_rfl) (fun _ _ _ h => h) (by kernel_rfl) (Ext.stable _) hCD (yieldsU_val rfl (fun u hu => by have cc := (hu.cell (p := ⟨b, off + k, none⟩) hbV).trans CX.out; go_simp)) ?_
      simp only [Act.put, List.setIfInBounds_toArray, List.set_cons_succ, List.set_cons_zero]
      refine anyU_takeP (i := 4) (j := 8) (v := .slice (some ⟨b2, off2, none⟩) n d) 21 [7, 6] rfl rfl (by kernel_rfl) (by kernel_rfl) (by kernel_rfl) (fun _ _ _ h => h) (by kernel_rfl) (Ext.stable _) hCD (yieldsU_val rfl (fun u hu => by go_simp)) ?_
      refine anyU_takeP (i := 5) (j := 8) (v := .int .i64 (k : Int)) 22 [7, 6] rfl rfl (by kernel_rfl) (by kernel_rfl) (by kernel_rfl) (fun _ _ _ h => h) (by kernel_rfl) (Ext.stable _) hCD (yieldsU_val rfl (fun u hu => by go_simp)) ?_
      refine anyU_takeP (i := 6) (j := 8) (v := .pointer (some ⟨b2, off2 + k, none⟩)) 23 [7] rfl rfl (by kernel_rfl) (by kernel_rfl) (by kernel_rfl) (fun _ _ _ h => h) (by kernel_rfl) (Ext.stable _) hCD (yieldsU_val rfl (fun u hu => by go_simp)) ?_
      refine anyU_takeP (i := 7) (j := 8) (v := .int .i64 y) 24 [] rfl rfl (by kernel_rfl) (by kernel_rfl) (by kernel_rfl) (fun _ _ _ h => h) (by kernel_rfl) (Ext.stable _) hCD (yieldsU_val rfl (fun u hu => by have cc := (hu.cell (p := ⟨b2, off2 + k, none⟩) hb2V).trans CY.out; go_simp)) ?_
      simp only [Act.put, List.setIfInBounds_toArray, List.set_cons_succ, List.set_cons_zero]
      refine anyU_tail 8 [] rfl rfl (by decide) (by kernel_rfl) ?_
      intro u hu
      simp only [Act.put, List.filterMap_cons, List.filterMap_nil, List.getElem?_cons_succ, List.getElem?_cons_zero]
      have BU := Lib.hid (bel_trans BV.out hu)
      clear hu CX CY BV
      by_cases hxy : x = y
      · have HT := Lib.hid (show zs.getD k 0 = ys.getD k 0 by rw [HX.out, HY.out, hxy])
        subst hxy
        go_wp2_with fail
        go_roundw
        case rel => exact ⟨k + 1, by omega, by simp, Lib.hid (fun i hi => by
          rcases Nat.lt_or_ge i k with h | h
          · exact HA.out i h
          · obtain rfl : i = k := by omega
            exact HT.out), BU⟩
        case measure => simp [intOf]; omega
      · have HV := Lib.hid (show v = false by
          rw [← hv.out]; exact decide_eq_false (fun e => hxy (by rw [← HX.out, ← HY.out, e])))
        have hd1 : decide (x = y) = false := decide_eq_false hxy
        have hd2 : (x == y) = false := by simpa using hxy
        go_wp2_with fail
        go_ret
        rw [HV.out]
        exact ⟨rfl, BU.out⟩
    · have hkn : k = n := by omega
      have HV := Lib.hid (show v = true by
        rw [← hv.out]
        refine decide_eq_true (List.ext_getElem (by rw [← hz.out.len, ← hy.out.len]) fun i h1 h2 => ?_)
        have := HA.out i (by have := hz.out.len; omega)
        simpa [List.getD, h1, h2] using this)
      have hd : decide ((k : Int) < (n : Int)) = false := decide_eq_false (by omega)
      clear hkn
      go_wp2_with fail
      go_ret
      rw [HV.out]
      exact ⟨rfl, HB.out⟩
end Go.Proofs.Ytilokkkodocoiaa
