/- Check of rules and gaps, and the reference's. -/
import Derived.Test.YtilokkkodocoiaaCalFol
namespace Go.Proofs.Ytilokkkodocoiaa
open Go.RowKit
set_option linter.unusedVariables false
set_option linter.unusedSimpArgs false

def validB (rs : List Rl) (gs : List Gp) : Bool := rs.all okR && (List.range gs.length).all (gapOk gs)
theorem validB_iff {rs : List Rl} {gs : List Gp} : validB rs gs = true ↔ Valid rs gs := by
  unfold validB
  rw [Bool.and_eq_true, List.all_eq_true, List.all_eq_true]
  exact ⟨fun h => ⟨h.1, fun i hi => h.2 i (List.mem_range.2 hi)⟩, fun h => ⟨h.r, fun i hi => h.g i (List.mem_range.1 hi)⟩⟩
def chkE (rs : List Rl) (gs : List Gp) : Int := if 16 < rs.length ∨ 64 < gs.length then 2 else if validB rs gs = true then 0 else 190
section
variable {rs : List Rl} {gs : List Gp}
theorem chk_big (h : 16 < rs.length ∨ 64 < gs.length) : chkE rs gs = 2 := if_pos h
theorem chk_bad (h1 : rs.length ≤ 16) (h2 : gs.length ≤ 64) (h : ¬ Valid rs gs) : chkE rs gs = 190 := by
  unfold chkE
  rw [if_neg (by omega), if_neg (fun e => h (validB_iff.1 e))]
theorem chk_ok (h1 : rs.length ≤ 16) (h2 : gs.length ≤ 64) (h : Valid rs gs) : chkE rs gs = 0 := by
  unfold chkE
  rw [if_neg (by omega), if_pos (validB_iff.2 h)]
theorem chk_r {k : Nat} (h1 : rs.length ≤ 16) (h2 : gs.length ≤ 64) (hk : k < rs.length) (h : okR (rs.getD k rl0) = false) : chkE rs gs = 190 := chk_bad h1 h2 fun v => by
  rw [v.r _ (getD_memZ hk)] at h; cases h
theorem chk_g {k : Nat} (h1 : rs.length ≤ 16) (h2 : gs.length ≤ 64) (hk : k < gs.length) (h : gapOk gs k = false) : chkE rs gs = 190 := chk_bad h1 h2 fun v => by
  rw [v.g _ hk] at h; cases h
theorem chk_valid (h : chkE rs gs = 0) : Valid rs gs ∧ rs.length ≤ 16 ∧ gs.length ≤ 64 := by
  unfold chkE at h
  split at h
  · cases h
  · split at h
    · exact ⟨validB_iff.1 (by assumption), by omega, by omega⟩
    · cases h
theorem chk_three : chkE rs gs = 0 ∨ chkE rs gs = 2 ∨ chkE rs gs = 190 := by
  unfold chkE
  split
  · exact .inr (.inl rfl)
  · split
    · exact .inl rfl
    · exact .inr (.inr rfl)
end
set_option maxRecDepth 100000 in
set_option maxHeartbeats 16000000 in
theorem ccheck_is (p : Option Addr) (n c : Nat) (rs : List Rl) (q : Option Addr) (m d : Nat) (gs : List Gp) (E : Int) (w : World) (hr : Hid (RulesV w p n c rs)) (hg : Hid (GapsV w q m d gs)) (hE : Hid (chkE rs gs = E)) :
    Calls Try.prog 12 #[.slice p n c, .slice q m d] w fun e w' => e = .returned (.int .i64 E) ∧ Below w.heap.size w w' := by
  have HN := Lib.hid hr.out.len
  have HM := Lib.hid hg.out.len
  have hnc := hr.out.nc
  have hcm := hr.out.cm
  have hmd := hg.out.nc
  have hdm := hg.out.cm
  by_cases hb1 : 16 < n
  · have HE := Lib.hid (show E = 2 by rw [← hE.out]; exact chk_big (.inl (by have := HN.out; omega)))
    have d1 : decide ((16 : Int) < (n : Int)) = true := decide_eq_true (by omega)
    go_enter Try.func12, Try.ntmps12
    go_wp2_with fail
    go_ret
    rw [HE.out]
    exact ⟨rfl, Below.refl _ w⟩
  have d1 : decide ((16 : Int) < (n : Int)) = false := decide_eq_false (by omega)
  by_cases hb2 : 64 < m
  · have HE := Lib.hid (show E = 2 by rw [← hE.out]; exact chk_big (.inr (by have := HM.out; omega)))
    have d2 : decide ((64 : Int) < (m : Int)) = true := decide_eq_true (by omega)
    go_enter Try.func12, Try.ntmps12
    go_wp2_with fail
    go_ret
    rw [HE.out]
    exact ⟨rfl, Below.refl _ w⟩
  have d2 : decide ((64 : Int) < (m : Int)) = false := decide_eq_false (by omega)
  have HS := Lib.hid (show rs.length ≤ 16 ∧ gs.length ≤ 64 by have := HN.out; have := HM.out; omega)
  have B0 := Lib.hid (Below.refl w.heap.size w)
  go_enter Try.func12, Try.ntmps12
  go_wp2_with fail
  go_loopw [19] (fun i wr => ∃ k : Nat, k ≤ n ∧ i = .int .i64 (k : Int) ∧ Hid (∀ i, i < k → okR (rs.getD i rl0) = true) ∧ Hid (Below w.heap.size w wr)) (fun i _ => n - (intOf i).toNat)
  case atStart => exact ⟨0, by omega, by simp, Lib.hid (fun i hi => absurd hi (by omega)), B0⟩
  case round =>
    clear B0
    obtain ⟨k, hk, rfl, HA, HB⟩ := hrel
    by_cases hlt : k < n
    · obtain ⟨b, off, hp, hb, e0, e1, e2⟩ := (hr.out.below HB.out).at hlt
      have HKL := Lib.hid (show k < rs.length by have := HN.out; omega)
      obtain ⟨x, hx⟩ : ∃ x, rs.getD k rl0 = x := ⟨_, rfl⟩
      rw [hx] at e0 e1 e2
      obtain ⟨x1, x2, x3⟩ := x
      dsimp only at e0 e1 e2
      have HX := Lib.hid hx
      clear hx
      subst hp
      cases hP : okP x1 x2 with
      | false =>
        have HPV := Lib.hid hP
        have HE := Lib.hid (show E = 190 by rw [← hE.out]; exact chk_r HS.out.1 HS.out.2 HKL.out (by rw [HX.out]; unfold okR; rw [hP]; rfl))
        clear hP
        go_wp2_with (go_at_call 21; with_reducible refine (cperiod_is x1 x2 false _ HPV.out).mono ?_; rintro e w3 ⟨rfl, rfl⟩)
        go_ret
        rw [HE.out]
        exact ⟨rfl, bel_trans HB.out (bel_alloc1 wr _)⟩
      | true =>
        have HPV := Lib.hid hP
        have hP2 := okP_iff.1 hP
        clear hP
        by_cases h3 : x3 < 1
        · have d3 : decide (x3 < 1) = true := decide_eq_true h3
          have HE := Lib.hid (show E = 190 by rw [← hE.out]; exact chk_r HS.out.1 HS.out.2 HKL.out (by rw [HX.out]; unfold okR okP; simp; omega))
          go_wp2_with (go_at_call 21; with_reducible refine (cperiod_is x1 x2 true _ HPV.out).mono ?_; rintro e w3 ⟨rfl, rfl⟩)
          go_ret
          rw [HE.out]
          exact ⟨rfl, bel_trans HB.out (bel_alloc1 wr _)⟩
        have d3 : decide (x3 < 1) = false := decide_eq_false h3
        by_cases h4 : 2097152 < x3
        · have d4 : decide (2097152 < x3) = true := decide_eq_true h4
          have HE := Lib.hid (show E = 190 by rw [← hE.out]; exact chk_r HS.out.1 HS.out.2 HKL.out (by rw [HX.out]; unfold okR okP; simp; omega))
          go_wp2_with (go_at_call 21; with_reducible refine (cperiod_is x1 x2 true _ HPV.out).mono ?_; rintro e w3 ⟨rfl, rfl⟩)
          go_ret
          rw [HE.out]
          exact ⟨rfl, bel_trans HB.out (bel_alloc1 wr _)⟩
        have d4 : decide (2097152 < x3) = false := decide_eq_false h4
        have HT := Lib.hid (show okR (rs.getD k rl0) = true by rw [HX.out]; unfold okR okP; simp; omega)
        go_wp2_with (go_at_call 21; with_reducible refine (cperiod_is x1 x2 true _ HPV.out).mono ?_; rintro e w3 ⟨rfl, rfl⟩)
        go_roundw
        case rel => exact ⟨k + 1, by omega, by simp, Lib.hid (fun i hi => by
          rcases Nat.lt_or_ge i k with h | h
          · exact HA.out i h
          · obtain rfl : i = k := by omega
            exact HT.out), Lib.hid (bel_trans HB.out (bel_alloc1 wr _))⟩
        case measure => simp [intOf]; omega
    · have hkn : k = n := by omega
      have HAR := Lib.hid (show ∀ r ∈ rs, okR r = true by
        intro r hrm
        obtain ⟨i, hi, rfl⟩ := List.getElem_of_mem hrm
        have := HA.out i (by have := HN.out; omega)
        simpa [List.getD, hi] using this)
      have hd : decide ((k : Int) < (n : Int)) = false := decide_eq_false (by omega)
      clear hkn HA
      go_wp2_with fail
      go_loopw [42] (fun i wr => ∃ k : Nat, k ≤ m ∧ i = .int .i64 (k : Int) ∧ Hid (∀ i, i < k → gapOk gs i = true) ∧ Hid (Below w.heap.size w wr)) (fun i _ => m - (intOf i).toNat)
      case atStart => exact ⟨0, by omega, by simp, Lib.hid (fun i hi => absurd hi (by omega)), HB⟩
      case round =>
        clear HB
        rename Nat => kk
        obtain ⟨k, hk, rfl, HA, HB⟩ := hrel
        by_cases hlt : k < m
        · obtain ⟨b, off, hp, hb, e0, e1⟩ := hg.out.at hlt
          have HKL := Lib.hid (show k < gs.length by have := HM.out; omega)
          have HQ := Lib.hid (show ∀ h, h + 1 = k → w.cell? ⟨b, off + h * 2 + 1, none⟩ = some (.int .i64 (gs.getD h gp0).2) from fun h hh => by
            obtain ⟨b9, off9, hp9, _, _, e9⟩ := hg.out.at (i := h) (by omega)
            rw [hp] at hp9
            obtain ⟨rfl, rfl⟩ : b = b9 ∧ off = off9 := by simpa using hp9
            exact e9)
          have e0 := (HB.out.cell (p := ⟨b, off + k * 2, none⟩) hb).trans e0
          have e1 := (HB.out.cell (p := ⟨b, off + k * 2 + 1, none⟩) hb).trans e1
          obtain ⟨x, hx⟩ : ∃ x, gs.getD k gp0 = x := ⟨_, rfl⟩
          rw [hx] at e0 e1
          obtain ⟨g1, g2⟩ := x
          dsimp only at e0 e1
          have HX := Lib.hid hx
          clear hx
          subst hp
          go_upto_region 12 with fail
          clear e0 e1
          refine wp_region_any (by kernel_rfl) ?_
          change wpAny _ _ _ _ _ _ _ (World.drew _)
          generalize hWD : World.drew _ = V
          have BX := Lib.hid (show Below w.heap.size w V by rw [← hWD]; exact (bel_trans HB.out (bel_alloc1 wr _)).drew)
          have CX := Lib.hid (show Blk V wr.heap.size #[.int .i64 g1, .int .i64 g2] 37 by rw [← hWD]; exact Blk.new wr _ _)
          have hbV : b < V.heap.size := Nat.lt_of_lt_of_le hb BX.out.size
          generalize wr.heap.size = xb at CX ⊢
          clear hWD
          have hCD : ∀ u, Ext V u → Ext V u := fun u hu => hu
          cases hP : okP g1 g2 with
          | false =>
            have HPV := Lib.hid hP
            have HGF := Lib.hid (show gapOk gs k = false by unfold gapOk; rw [HX.out]; dsimp only; rw [hP]; rfl)
            clear hP
            refine region_U (D := Ext V) (Ext V) [20] (Ext.refl V) ?_
            refine anyU_takeP (i := 0) (j := 20) (v := .pointer (some ⟨xb, 0, none⟩)) 47 [6, 4, 1] rfl rfl (by kernel_rfl) (by kernel_rfl) (by kernel_rfl) (fun _ _ _ h => h) (by kernel_rfl) (Ext.stable _) hCD (yieldsU_val rfl (fun u hu => by go_simp)) ?_
            refine anyU_takeP (i := 1) (j := 20) (v := .int .i64 g1) 48 [6, 4] rfl rfl (by kernel_rfl) (by kernel_rfl) (by kernel_rfl) (fun _ _ _ h => h) (by kernel_rfl) (Ext.stable _) hCD (yieldsU_val rfl (fun u hu => by have cc := (CX.out.below hu CX.out.lt).cell 0; go_simp)) ?_
            refine anyU_takeP (i := 2) (j := 20) (v := .pointer (some ⟨xb, 1, none⟩)) 49 [6, 4, 3] rfl rfl (by kernel_rfl) (by kernel_rfl) (by kernel_rfl) (fun _ _ _ h => h) (by kernel_rfl) (Ext.stable _) hCD (yieldsU_val rfl (fun u hu => by go_simp)) ?_
            refine anyU_takeP (i := 3) (j := 20) (v := .int .i64 g2) 50 [6, 4] rfl rfl (by kernel_rfl) (by kernel_rfl) (by kernel_rfl) (fun _ _ _ h => h) (by kernel_rfl) (Ext.stable _) hCD (yieldsU_val rfl (fun u hu => by have cc := (CX.out.below hu CX.out.lt).cell 1; go_simp)) ?_
            simp only [Act.put, List.setIfInBounds_toArray, List.set_cons_succ, List.set_cons_zero]
            refine anyU_takeP (i := 4) (j := 20) (v := .bool false) 51 [6] rfl rfl (by kernel_rfl) (by kernel_rfl) (by kernel_rfl) (fun _ _ _ h => h) (by kernel_rfl) (Ext.stable _) hCD (yieldsU_call rfl 21 _ _ rfl #[.int .i64 g1, .int .i64 g2] (by simp [Act.eval, Act.put]) (fun u => by go_simp) (fun u hu => (cperiod_is g1 g2 false u HPV.out).mono (fun e w2 h => ⟨h.1, by rw [← h.2]; exact Below.refl _ _⟩))) ?_
            refine anyU_takeP (i := 5) (j := 20) (v := .bool true) 52 [6] rfl rfl (by kernel_rfl) (by kernel_rfl) (by kernel_rfl) (fun _ _ _ h => h) (by kernel_rfl) (Ext.stable _) hCD (yieldsU_val rfl (fun u hu => by go_simp)) ?_
            refine anyU_takeP (i := 6) (j := 20) (v := .bool true) 53 [] rfl rfl (by kernel_rfl) (by kernel_rfl) (by kernel_rfl) (fun _ _ _ h => h) (by kernel_rfl) (Ext.stable _) hCD (yieldsU_val rfl (fun u hu => by go_simp)) ?_
            simp only [Act.put, List.setIfInBounds_toArray, List.set_cons_succ, List.set_cons_zero]
            refine anyU_takeP (i := 7) (j := 20) (v := undef) 54 [19, 9, 8] rfl rfl (by kernel_rfl) (by kernel_rfl) (by kernel_rfl) (fun _ _ _ h => h) (by kernel_rfl) (Ext.stable _) hCD (.inr ⟨by rfl, rfl⟩) ?_
            refine anyU_takeP (i := 8) (j := 20) (v := undef) 55 [19, 9] rfl rfl (by kernel_rfl) (by kernel_rfl) (by kernel_rfl) (fun _ _ _ h => h) (by kernel_rfl) (Ext.stable _) hCD (.inr ⟨by rfl, rfl⟩) ?_
            refine anyU_takeP (i := 9) (j := 20) (v := undef) 56 [19] rfl rfl (by kernel_rfl) (by kernel_rfl) (by kernel_rfl) (fun _ _ _ h => h) (by kernel_rfl) (Ext.stable _) hCD (.inr ⟨by rfl, rfl⟩) ?_
            simp only [Act.put, List.setIfInBounds_toArray, List.set_cons_succ, List.set_cons_zero]
            refine anyU_takeP (i := 10) (j := 20) (v := undef) 57 [19, 18, 11] rfl rfl (by kernel_rfl) (by kernel_rfl) (by kernel_rfl) (fun _ _ _ h => h) (by kernel_rfl) (Ext.stable _) hCD (.inr ⟨by rfl, rfl⟩) ?_
            refine anyU_takeP (i := 11) (j := 20) (v := undef) 58 [19, 18] rfl rfl (by kernel_rfl) (by kernel_rfl) (by kernel_rfl) (fun _ _ _ h => h) (by kernel_rfl) (Ext.stable _) hCD (.inr ⟨by rfl, rfl⟩) ?_
            refine anyU_takeP (i := 12) (j := 20) (v := undef) 59 [19, 18, 17, 16, 15] rfl rfl (by kernel_rfl) (by kernel_rfl) (by kernel_rfl) (fun _ _ _ h => h) (by kernel_rfl) (Ext.stable _) hCD (.inr ⟨by rfl, rfl⟩) ?_
            refine anyU_takeP (i := 13) (j := 20) (v := undef) 60 [19, 18, 17, 16, 15, 14] rfl rfl (by kernel_rfl) (by kernel_rfl) (by kernel_rfl) (fun _ _ _ h => h) (by kernel_rfl) (Ext.stable _) hCD (.inr ⟨by rfl, rfl⟩) ?_
            refine anyU_takeP (i := 14) (j := 20) (v := undef) 61 [19, 18, 17, 16, 15] rfl rfl (by kernel_rfl) (by kernel_rfl) (by kernel_rfl) (fun _ _ _ h => h) (by kernel_rfl) (Ext.stable _) hCD (.inr ⟨by rfl, rfl⟩) ?_
            simp only [Act.put, List.setIfInBounds_toArray, List.set_cons_succ, List.set_cons_zero]
            refine anyU_takeP (i := 15) (j := 20) (v := undef) 62 [19, 18, 17, 16] rfl rfl (by kernel_rfl) (by kernel_rfl) (by kernel_rfl) (fun _ _ _ h => h) (by kernel_rfl) (Ext.stable _) hCD (.inr ⟨by rfl, rfl⟩) ?_
            refine anyU_takeP (i := 16) (j := 20) (v := undef) 63 [19, 18, 17] rfl rfl (by kernel_rfl) (by kernel_rfl) (by kernel_rfl) (fun _ _ _ h => h) (by kernel_rfl) (Ext.stable _) hCD (.inr ⟨by rfl, rfl⟩) ?_
            refine anyU_takeP (i := 17) (j := 20) (v := undef) 64 [19, 18] rfl rfl (by kernel_rfl) (by kernel_rfl) (by kernel_rfl) (fun _ _ _ h => h) (by kernel_rfl) (Ext.stable _) hCD (.inr ⟨by rfl, rfl⟩) ?_
            refine anyU_takeP (i := 18) (j := 20) (v := undef) 65 [19] rfl rfl (by kernel_rfl) (by kernel_rfl) (by kernel_rfl) (fun _ _ _ h => h) (by kernel_rfl) (Ext.stable _) hCD (.inr ⟨by rfl, rfl⟩) ?_
            refine anyU_takeP (i := 19) (j := 20) (v := undef) 66 [] rfl rfl (by kernel_rfl) (by kernel_rfl) (by kernel_rfl) (fun _ _ _ h => h) (by kernel_rfl) (Ext.stable _) hCD (.inr ⟨by rfl, rfl⟩) ?_
            simp only [Act.put, List.setIfInBounds_toArray, List.set_cons_succ, List.set_cons_zero]
            refine anyU_tail 20 [] rfl rfl (by decide) (by kernel_rfl) ?_
            intro u hu
            simp only [Act.put, List.filterMap_cons, List.filterMap_nil, List.getElem?_cons_succ, List.getElem?_cons_zero]
            have BU := Lib.hid (bel_trans BX.out hu)
            clear hu CX BX
            have HE := Lib.hid (show E = 190 by rw [← hE.out]; exact chk_g HS.out.1 HS.out.2 HKL.out HGF.out)
            go_wp2_with fail
            go_ret
            rw [HE.out]
            exact ⟨rfl, BU.out⟩
          | true =>
          have HPV := Lib.hid hP
          have hP2 := okP_iff.1 hP
          clear hP
          by_cases hk0 : k = 0
          · have HGT := Lib.hid (show gapOk gs k = true by unfold gapOk; rw [HX.out]; dsimp only; rw [HPV.out, decide_eq_true hk0]; rfl)
            have d5 : decide ((0 : Int) < (k : Int)) = false := decide_eq_false (by omega)
            have hnk : ¬ (0 < k) := by omega
            clear hk0
            refine region_U (D := Ext V) (Ext V) [20] (Ext.refl V) ?_
            refine anyU_takeP (i := 0) (j := 20) (v := .pointer (some ⟨xb, 0, none⟩)) 47 [6, 4, 1] rfl rfl (by kernel_rfl) (by kernel_rfl) (by kernel_rfl) (fun _ _ _ h => h) (by kernel_rfl) (Ext.stable _) hCD (yieldsU_val rfl (fun u hu => by go_simp)) ?_
            refine anyU_takeP (i := 1) (j := 20) (v := .int .i64 g1) 48 [6, 4] rfl rfl (by kernel_rfl) (by kernel_rfl) (by kernel_rfl) (fun _ _ _ h => h) (by kernel_rfl) (Ext.stable _) hCD (yieldsU_val rfl (fun u hu => by have cc := (CX.out.below hu CX.out.lt).cell 0; go_simp)) ?_
            refine anyU_takeP (i := 2) (j := 20) (v := .pointer (some ⟨xb, 1, none⟩)) 49 [6, 4, 3] rfl rfl (by kernel_rfl) (by kernel_rfl) (by kernel_rfl) (fun _ _ _ h => h) (by kernel_rfl) (Ext.stable _) hCD (yieldsU_val rfl (fun u hu => by go_simp)) ?_
            refine anyU_takeP (i := 3) (j := 20) (v := .int .i64 g2) 50 [6, 4] rfl rfl (by kernel_rfl) (by kernel_rfl) (by kernel_rfl) (fun _ _ _ h => h) (by kernel_rfl) (Ext.stable _) hCD (yieldsU_val rfl (fun u hu => by have cc := (CX.out.below hu CX.out.lt).cell 1; go_simp)) ?_
            simp only [Act.put, List.setIfInBounds_toArray, List.set_cons_succ, List.set_cons_zero]
            refine anyU_takeP (i := 4) (j := 20) (v := .bool true) 51 [6] rfl rfl (by kernel_rfl) (by kernel_rfl) (by kernel_rfl) (fun _ _ _ h => h) (by kernel_rfl) (Ext.stable _) hCD (yieldsU_call rfl 21 _ _ rfl #[.int .i64 g1, .int .i64 g2] (by simp [Act.eval, Act.put]) (fun u => by go_simp) (fun u hu => (cperiod_is g1 g2 true u HPV.out).mono (fun e w2 h => ⟨h.1, by rw [← h.2]; exact Below.refl _ _⟩))) ?_
            refine anyU_takeP (i := 5) (j := 20) (v := .bool false) 52 [6] rfl rfl (by kernel_rfl) (by kernel_rfl) (by kernel_rfl) (fun _ _ _ h => h) (by kernel_rfl) (Ext.stable _) hCD (yieldsU_val rfl (fun u hu => by go_simp)) ?_
            refine anyU_takeP (i := 6) (j := 20) (v := .bool false) 53 [] rfl rfl (by kernel_rfl) (by kernel_rfl) (by kernel_rfl) (fun _ _ _ h => h) (by kernel_rfl) (Ext.stable _) hCD (yieldsU_val rfl (fun u hu => by go_simp)) ?_
            simp only [Act.put, List.setIfInBounds_toArray, List.set_cons_succ, List.set_cons_zero]
            refine anyU_takeP (i := 7) (j := 20) (v := .int .i64 (k : Int)) 54 [19, 9, 8] rfl rfl (by kernel_rfl) (by kernel_rfl) (by kernel_rfl) (fun _ _ _ h => h) (by kernel_rfl) (Ext.stable _) hCD (yieldsU_val rfl (fun u hu => by go_simp)) ?_
            refine anyU_takeP (i := 8) (j := 20) (v := .bool false) 55 [19, 9] rfl rfl (by kernel_rfl) (by kernel_rfl) (by kernel_rfl) (fun _ _ _ h => h) (by kernel_rfl) (Ext.stable _) hCD (yieldsU_val rfl (fun u hu => by go_simp)) ?_
            refine anyU_takeP (i := 9) (j := 20) (v := .bool false) 56 [19] rfl rfl (by kernel_rfl) (by kernel_rfl) (by kernel_rfl) (fun _ _ _ h => h) (by kernel_rfl) (Ext.stable _) hCD (yieldsU_val rfl (fun u hu => by go_simp)) ?_
            simp only [Act.put, List.setIfInBounds_toArray, List.set_cons_succ, List.set_cons_zero]
            refine anyU_takeP (i := 10) (j := 20) (v := undef) 57 [19, 18, 11] rfl rfl (by kernel_rfl) (by kernel_rfl) (by kernel_rfl) (fun _ _ _ h => h) (by kernel_rfl) (Ext.stable _) hCD (.inr ⟨by rfl, rfl⟩) ?_
            refine anyU_takeP (i := 11) (j := 20) (v := undef) 58 [19, 18] rfl rfl (by kernel_rfl) (by kernel_rfl) (by kernel_rfl) (fun _ _ _ h => h) (by kernel_rfl) (Ext.stable _) hCD (.inr ⟨by rfl, rfl⟩) ?_
            refine anyU_takeP (i := 12) (j := 20) (v := undef) 59 [19, 18, 17, 16, 15] rfl rfl (by kernel_rfl) (by kernel_rfl) (by kernel_rfl) (fun _ _ _ h => h) (by kernel_rfl) (Ext.stable _) hCD (.inr ⟨by rfl, rfl⟩) ?_
            refine anyU_takeP (i := 13) (j := 20) (v := undef) 60 [19, 18, 17, 16, 15, 14] rfl rfl (by kernel_rfl) (by kernel_rfl) (by kernel_rfl) (fun _ _ _ h => h) (by kernel_rfl) (Ext.stable _) hCD (.inr ⟨by rfl, rfl⟩) ?_
            refine anyU_takeP (i := 14) (j := 20) (v := undef) 61 [19, 18, 17, 16, 15] rfl rfl (by kernel_rfl) (by kernel_rfl) (by kernel_rfl) (fun _ _ _ h => h) (by kernel_rfl) (Ext.stable _) hCD (.inr ⟨by rfl, rfl⟩) ?_
            simp only [Act.put, List.setIfInBounds_toArray, List.set_cons_succ, List.set_cons_zero]
            refine anyU_takeP (i := 15) (j := 20) (v := undef) 62 [19, 18, 17, 16] rfl rfl (by kernel_rfl) (by kernel_rfl) (by kernel_rfl) (fun _ _ _ h => h) (by kernel_rfl) (Ext.stable _) hCD (.inr ⟨by rfl, rfl⟩) ?_
            refine anyU_takeP (i := 16) (j := 20) (v := undef) 63 [19, 18, 17] rfl rfl (by kernel_rfl) (by kernel_rfl) (by kernel_rfl) (fun _ _ _ h => h) (by kernel_rfl) (Ext.stable _) hCD (.inr ⟨by rfl, rfl⟩) ?_
            refine anyU_takeP (i := 17) (j := 20) (v := undef) 64 [19, 18] rfl rfl (by kernel_rfl) (by kernel_rfl) (by kernel_rfl) (fun _ _ _ h => h) (by kernel_rfl) (Ext.stable _) hCD (.inr ⟨by rfl, rfl⟩) ?_
            refine anyU_takeP (i := 18) (j := 20) (v := undef) 65 [19] rfl rfl (by kernel_rfl) (by kernel_rfl) (by kernel_rfl) (fun _ _ _ h => h) (by kernel_rfl) (Ext.stable _) hCD (.inr ⟨by rfl, rfl⟩) ?_
            refine anyU_takeP (i := 19) (j := 20) (v := .bool false) 66 [] rfl rfl (by kernel_rfl) (by kernel_rfl) (by kernel_rfl) (fun _ _ _ h => h) (by kernel_rfl) (Ext.stable _) hCD (yieldsU_val rfl (fun u hu => by go_simp)) ?_
            simp only [Act.put, List.setIfInBounds_toArray, List.set_cons_succ, List.set_cons_zero]
            refine anyU_tail 20 [] rfl rfl (by decide) (by kernel_rfl) ?_
            intro u hu
            simp only [Act.put, List.filterMap_cons, List.filterMap_nil, List.getElem?_cons_succ, List.getElem?_cons_zero]
            have BU := Lib.hid (bel_trans BX.out hu)
            clear hu CX BX
            go_wp2_with fail
            go_roundw
            case rel => exact ⟨k + 1, by omega, by simp, Lib.hid (fun i hi => by
              rcases Nat.lt_or_ge i k with h | h
              · exact HA.out i h
              · obtain rfl : i = k := by omega
                exact HGT.out), BU⟩
            case measure => simp [intOf]; omega
          obtain ⟨h, hh⟩ : ∃ h, h + 1 = k := ⟨k - 1, by omega⟩
          have CP0 := HQ.out h hh
          have hprev := show gs.getD (k - 1) gp0 = gs.getD h gp0 by rw [← hh]; rfl
          obtain ⟨y, hy⟩ : ∃ y, gs.getD h gp0 = y := ⟨_, rfl⟩
          rw [hy] at CP0 hprev
          obtain ⟨p1, p2⟩ := y
          dsimp only at CP0
          have CP := Lib.hid ((BX.out.cell (p := ⟨b, off + h * 2 + 1, none⟩) hb).trans CP0)
          have HPR := Lib.hid hprev
          have d5 : decide ((0 : Int) < (k : Int)) = true := decide_eq_true (by omega)
          have hkp : 0 < k := by omega
          have hwk : IntKind.i64.wrap ((k : Int) - 1) = (h : Int) := by rw [IntKind.wrap_i64]; omega
          have hhm : h < m := by omega
          clear CP0 hprev hy hh
          by_cases h6 : g1 ≤ p2
          · have d6 : decide (g1 ≤ p2) = true := decide_eq_true h6
            have HGF := Lib.hid (show gapOk gs k = false by unfold gapOk; rw [HX.out]; dsimp only; rw [HPR.out]; dsimp only; rw [HPV.out]; simp; omega)
            refine region_U (D := Ext V) (Ext V) [20] (Ext.refl V) ?_
            refine anyU_takeP (i := 0) (j := 20) (v := .pointer (some ⟨xb, 0, none⟩)) 47 [6, 4, 1] rfl rfl (by kernel_rfl) (by kernel_rfl) (by kernel_rfl) (fun _ _ _ h => h) (by kernel_rfl) (Ext.stable _) hCD (yieldsU_val rfl (fun u hu => by go_simp)) ?_
            refine anyU_takeP (i := 1) (j := 20) (v := .int .i64 g1) 48 [6, 4] rfl rfl (by kernel_rfl) (by kernel_rfl) (by kernel_rfl) (fun _ _ _ h => h) (by kernel_rfl) (Ext.stable _) hCD (yieldsU_val rfl (fun u hu => by have cc := (CX.out.below hu CX.out.lt).cell 0; go_simp)) ?_
            refine anyU_takeP (i := 2) (j := 20) (v := .pointer (some ⟨xb, 1, none⟩)) 49 [6, 4, 3] rfl rfl (by kernel_rfl) (by kernel_rfl) (by kernel_rfl) (fun _ _ _ h => h) (by kernel_rfl) (Ext.stable _) hCD (yieldsU_val rfl (fun u hu => by go_simp)) ?_
            refine anyU_takeP (i := 3) (j := 20) (v := .int .i64 g2) 50 [6, 4] rfl rfl (by kernel_rfl) (by kernel_rfl) (by kernel_rfl) (fun _ _ _ h => h) (by kernel_rfl) (Ext.stable _) hCD (yieldsU_val rfl (fun u hu => by have cc := (CX.out.below hu CX.out.lt).cell 1; go_simp)) ?_
            simp only [Act.put, List.setIfInBounds_toArray, List.set_cons_succ, List.set_cons_zero]
            refine anyU_takeP (i := 4) (j := 20) (v := .bool true) 51 [6] rfl rfl (by kernel_rfl) (by kernel_rfl) (by kernel_rfl) (fun _ _ _ h => h) (by kernel_rfl) (Ext.stable _) hCD (yieldsU_call rfl 21 _ _ rfl #[.int .i64 g1, .int .i64 g2] (by simp [Act.eval, Act.put]) (fun u => by go_simp) (fun u hu => (cperiod_is g1 g2 true u HPV.out).mono (fun e w2 h => ⟨h.1, by rw [← h.2]; exact Below.refl _ _⟩))) ?_
            refine anyU_takeP (i := 5) (j := 20) (v := .bool false) 52 [6] rfl rfl (by kernel_rfl) (by kernel_rfl) (by kernel_rfl) (fun _ _ _ h => h) (by kernel_rfl) (Ext.stable _) hCD (yieldsU_val rfl (fun u hu => by go_simp)) ?_
            refine anyU_takeP (i := 6) (j := 20) (v := .bool false) 53 [] rfl rfl (by kernel_rfl) (by kernel_rfl) (by kernel_rfl) (fun _ _ _ h => h) (by kernel_rfl) (Ext.stable _) hCD (yieldsU_val rfl (fun u hu => by go_simp)) ?_
            simp only [Act.put, List.setIfInBounds_toArray, List.set_cons_succ, List.set_cons_zero]
            refine anyU_takeP (i := 7) (j := 20) (v := .int .i64 (k : Int)) 54 [19, 9, 8] rfl rfl (by kernel_rfl) (by kernel_rfl) (by kernel_rfl) (fun _ _ _ h => h) (by kernel_rfl) (Ext.stable _) hCD (yieldsU_val rfl (fun u hu => by go_simp)) ?_
            refine anyU_takeP (i := 8) (j := 20) (v := .bool true) 55 [19, 9] rfl rfl (by kernel_rfl) (by kernel_rfl) (by kernel_rfl) (fun _ _ _ h => h) (by kernel_rfl) (Ext.stable _) hCD (yieldsU_val rfl (fun u hu => by go_simp)) ?_
            refine anyU_takeP (i := 9) (j := 20) (v := .bool true) 56 [19] rfl rfl (by kernel_rfl) (by kernel_rfl) (by kernel_rfl) (fun _ _ _ h => h) (by kernel_rfl) (Ext.stable _) hCD (yieldsU_val rfl (fun u hu => by go_simp)) ?_
            simp only [Act.put, List.setIfInBounds_toArray, List.set_cons_succ, List.set_cons_zero]
            refine anyU_takeP (i := 10) (j := 20) (v := .pointer (some ⟨xb, 0, none⟩)) 57 [19, 18, 11] rfl rfl (by kernel_rfl) (by kernel_rfl) (by kernel_rfl) (fun _ _ _ h => h) (by kernel_rfl) (Ext.stable _) hCD (yieldsU_val rfl (fun u hu => by go_simp)) ?_
            refine anyU_takeP (i := 11) (j := 20) (v := .int .i64 g1) 58 [19, 18] rfl rfl (by kernel_rfl) (by kernel_rfl) (by kernel_rfl) (fun _ _ _ h => h) (by kernel_rfl) (Ext.stable _) hCD (yieldsU_val rfl (fun u hu => by have cc := (CX.out.below hu CX.out.lt).cell 0; go_simp)) ?_
            refine anyU_takeP (i := 12) (j := 20) (v := .slice (some ⟨b, off, none⟩) m d) 59 [19, 18, 17, 16, 15] rfl rfl (by kernel_rfl) (by kernel_rfl) (by kernel_rfl) (fun _ _ _ h => h) (by kernel_rfl) (Ext.stable _) hCD (yieldsU_val rfl (fun u hu => by go_simp)) ?_
            refine anyU_takeP (i := 13) (j := 20) (v := .int .i64 (k : Int)) 60 [19, 18, 17, 16, 15, 14] rfl rfl (by kernel_rfl) (by kernel_rfl) (by kernel_rfl) (fun _ _ _ h => h) (by kernel_rfl) (Ext.stable _) hCD (yieldsU_val rfl (fun u hu => by go_simp)) ?_
            refine anyU_takeP (i := 14) (j := 20) (v := .int .i64 (h : Int)) 61 [19, 18, 17, 16, 15] rfl rfl (by kernel_rfl) (by kernel_rfl) (by kernel_rfl) (fun _ _ _ h => h) (by kernel_rfl) (Ext.stable _) hCD (yieldsU_val rfl (fun u hu => by go_simp)) ?_
            simp only [Act.put, List.setIfInBounds_toArray, List.set_cons_succ, List.set_cons_zero]
            refine anyU_takeP (i := 15) (j := 20) (v := .pointer (some ⟨b, off + h * 2, none⟩)) 62 [19, 18, 17, 16] rfl rfl (by kernel_rfl) (by kernel_rfl) (by kernel_rfl) (fun _ _ _ h => h) (by kernel_rfl) (Ext.stable _) hCD (yieldsU_val rfl (fun u hu => by go_simp)) ?_
            refine anyU_takeP (i := 16) (j := 20) (v := .pointer (some ⟨b, off + h * 2 + 1, none⟩)) 63 [19, 18, 17] rfl rfl (by kernel_rfl) (by kernel_rfl) (by kernel_rfl) (fun _ _ _ h => h) (by kernel_rfl) (Ext.stable _) hCD (yieldsU_val rfl (fun u hu => by go_simp)) ?_
            refine anyU_takeP (i := 17) (j := 20) (v := .int .i64 p2) 64 [19, 18] rfl rfl (by kernel_rfl) (by kernel_rfl) (by kernel_rfl) (fun _ _ _ h => h) (by kernel_rfl) (Ext.stable _) hCD (yieldsU_val rfl (fun u hu => by have cc := (hu.cell (p := ⟨b, off + h * 2 + 1, none⟩) hbV).trans CP.out; go_simp)) ?_
            refine anyU_takeP (i := 18) (j := 20) (v := .bool true) 65 [19] rfl rfl (by kernel_rfl) (by kernel_rfl) (by kernel_rfl) (fun _ _ _ h => h) (by kernel_rfl) (Ext.stable _) hCD (yieldsU_val rfl (fun u hu => by go_simp)) ?_
            refine anyU_takeP (i := 19) (j := 20) (v := .bool true) 66 [] rfl rfl (by kernel_rfl) (by kernel_rfl) (by kernel_rfl) (fun _ _ _ h => h) (by kernel_rfl) (Ext.stable _) hCD (yieldsU_val rfl (fun u hu => by go_simp)) ?_
            simp only [Act.put, List.setIfInBounds_toArray, List.set_cons_succ, List.set_cons_zero]
            refine anyU_tail 20 [] rfl rfl (by decide) (by kernel_rfl) ?_
            intro u hu
            simp only [Act.put, List.filterMap_cons, List.filterMap_nil, List.getElem?_cons_succ, List.getElem?_cons_zero]
            have BU := Lib.hid (bel_trans BX.out hu)
            clear hu CX CP BX
            have HE := Lib.hid (show E = 190 by rw [← hE.out]; exact chk_g HS.out.1 HS.out.2 HKL.out HGF.out)
            go_wp2_with fail
            go_ret
            rw [HE.out]
            exact ⟨rfl, BU.out⟩
          have d6 : decide (g1 ≤ p2) = false := decide_eq_false h6
          have HGT := Lib.hid (show gapOk gs k = true by unfold gapOk; rw [HX.out, HPR.out]; dsimp only; rw [HPV.out]; simp; omega)
          refine region_U (D := Ext V) (Ext V) [20] (Ext.refl V) ?_
          refine anyU_takeP (i := 0) (j := 20) (v := .pointer (some ⟨xb, 0, none⟩)) 47 [6, 4, 1] rfl rfl (by kernel_rfl) (by kernel_rfl) (by kernel_rfl) (fun _ _ _ h => h) (by kernel_rfl) (Ext.stable _) hCD (yieldsU_val rfl (fun u hu => by go_simp)) ?_
          refine anyU_takeP (i := 1) (j := 20) (v := .int .i64 g1) 48 [6, 4] rfl rfl (by kernel_rfl) (by kernel_rfl) (by kernel_rfl) (fun _ _ _ h => h) (by kernel_rfl) (Ext.stable _) hCD (yieldsU_val rfl (fun u hu => by have cc := (CX.out.below hu CX.out.lt).cell 0; go_simp)) ?_
          refine anyU_takeP (i := 2) (j := 20) (v := .pointer (some ⟨xb, 1, none⟩)) 49 [6, 4, 3] rfl rfl (by kernel_rfl) (by kernel_rfl) (by kernel_rfl) (fun _ _ _ h => h) (by kernel_rfl) (Ext.stable _) hCD (yieldsU_val rfl (fun u hu => by go_simp)) ?_
          refine anyU_takeP (i := 3) (j := 20) (v := .int .i64 g2) 50 [6, 4] rfl rfl (by kernel_rfl) (by kernel_rfl) (by kernel_rfl) (fun _ _ _ h => h) (by kernel_rfl) (Ext.stable _) hCD (yieldsU_val rfl (fun u hu => by have cc := (CX.out.below hu CX.out.lt).cell 1; go_simp)) ?_
          simp only [Act.put, List.setIfInBounds_toArray, List.set_cons_succ, List.set_cons_zero]
          refine anyU_takeP (i := 4) (j := 20) (v := .bool true) 51 [6] rfl rfl (by kernel_rfl) (by kernel_rfl) (by kernel_rfl) (fun _ _ _ h => h) (by kernel_rfl) (Ext.stable _) hCD (yieldsU_call rfl 21 _ _ rfl #[.int .i64 g1, .int .i64 g2] (by simp [Act.eval, Act.put]) (fun u => by go_simp) (fun u hu => (cperiod_is g1 g2 true u HPV.out).mono (fun e w2 h => ⟨h.1, by rw [← h.2]; exact Below.refl _ _⟩))) ?_
          refine anyU_takeP (i := 5) (j := 20) (v := .bool false) 52 [6] rfl rfl (by kernel_rfl) (by kernel_rfl) (by kernel_rfl) (fun _ _ _ h => h) (by kernel_rfl) (Ext.stable _) hCD (yieldsU_val rfl (fun u hu => by go_simp)) ?_
          refine anyU_takeP (i := 6) (j := 20) (v := .bool false) 53 [] rfl rfl (by kernel_rfl) (by kernel_rfl) (by kernel_rfl) (fun _ _ _ h => h) (by kernel_rfl) (Ext.stable _) hCD (yieldsU_val rfl (fun u hu => by go_simp)) ?_
          simp only [Act.put, List.setIfInBounds_toArray, List.set_cons_succ, List.set_cons_zero]
          refine anyU_takeP (i := 7) (j := 20) (v := .int .i64 (k : Int)) 54 [19, 9, 8] rfl rfl (by kernel_rfl) (by kernel_rfl) (by kernel_rfl) (fun _ _ _ h => h) (by kernel_rfl) (Ext.stable _) hCD (yieldsU_val rfl (fun u hu => by go_simp)) ?_
          refine anyU_takeP (i := 8) (j := 20) (v := .bool true) 55 [19, 9] rfl rfl (by kernel_rfl) (by kernel_rfl) (by kernel_rfl) (fun _ _ _ h => h) (by kernel_rfl) (Ext.stable _) hCD (yieldsU_val rfl (fun u hu => by go_simp)) ?_
          refine anyU_takeP (i := 9) (j := 20) (v := .bool true) 56 [19] rfl rfl (by kernel_rfl) (by kernel_rfl) (by kernel_rfl) (fun _ _ _ h => h) (by kernel_rfl) (Ext.stable _) hCD (yieldsU_val rfl (fun u hu => by go_simp)) ?_
          simp only [Act.put, List.setIfInBounds_toArray, List.set_cons_succ, List.set_cons_zero]
          refine anyU_takeP (i := 10) (j := 20) (v := .pointer (some ⟨xb, 0, none⟩)) 57 [19, 18, 11] rfl rfl (by kernel_rfl) (by kernel_rfl) (by kernel_rfl) (fun _ _ _ h => h) (by kernel_rfl) (Ext.stable _) hCD (yieldsU_val rfl (fun u hu => by go_simp)) ?_
          refine anyU_takeP (i := 11) (j := 20) (v := .int .i64 g1) 58 [19, 18] rfl rfl (by kernel_rfl) (by kernel_rfl) (by kernel_rfl) (fun _ _ _ h => h) (by kernel_rfl) (Ext.stable _) hCD (yieldsU_val rfl (fun u hu => by have cc := (CX.out.below hu CX.out.lt).cell 0; go_simp)) ?_
          refine anyU_takeP (i := 12) (j := 20) (v := .slice (some ⟨b, off, none⟩) m d) 59 [19, 18, 17, 16, 15] rfl rfl (by kernel_rfl) (by kernel_rfl) (by kernel_rfl) (fun _ _ _ h => h) (by kernel_rfl) (Ext.stable _) hCD (yieldsU_val rfl (fun u hu => by go_simp)) ?_
          refine anyU_takeP (i := 13) (j := 20) (v := .int .i64 (k : Int)) 60 [19, 18, 17, 16, 15, 14] rfl rfl (by kernel_rfl) (by kernel_rfl) (by kernel_rfl) (fun _ _ _ h => h) (by kernel_rfl) (Ext.stable _) hCD (yieldsU_val rfl (fun u hu => by go_simp)) ?_
          refine anyU_takeP (i := 14) (j := 20) (v := .int .i64 (h : Int)) 61 [19, 18, 17, 16, 15] rfl rfl (by kernel_rfl) (by kernel_rfl) (by kernel_rfl) (fun _ _ _ h => h) (by kernel_rfl) (Ext.stable _) hCD (yieldsU_val rfl (fun u hu => by go_simp)) ?_
          simp only [Act.put, List.setIfInBounds_toArray, List.set_cons_succ, List.set_cons_zero]
          refine anyU_takeP (i := 15) (j := 20) (v := .pointer (some ⟨b, off + h * 2, none⟩)) 62 [19, 18, 17, 16] rfl rfl (by kernel_rfl) (by kernel_rfl) (by kernel_rfl) (fun _ _ _ h => h) (by kernel_rfl) (Ext.stable _) hCD (yieldsU_val rfl (fun u hu => by go_simp)) ?_
          refine anyU_takeP (i := 16) (j := 20) (v := .pointer (some ⟨b, off + h * 2 + 1, none⟩)) 63 [19, 18, 17] rfl rfl (by kernel_rfl) (by kernel_rfl) (by kernel_rfl) (fun _ _ _ h => h) (by kernel_rfl) (Ext.stable _) hCD (yieldsU_val rfl (fun u hu => by go_simp)) ?_
          refine anyU_takeP (i := 17) (j := 20) (v := .int .i64 p2) 64 [19, 18] rfl rfl (by kernel_rfl) (by kernel_rfl) (by kernel_rfl) (fun _ _ _ h => h) (by kernel_rfl) (Ext.stable _) hCD (yieldsU_val rfl (fun u hu => by have cc := (hu.cell (p := ⟨b, off + h * 2 + 1, none⟩) hbV).trans CP.out; go_simp)) ?_
          refine anyU_takeP (i := 18) (j := 20) (v := .bool false) 65 [19] rfl rfl (by kernel_rfl) (by kernel_rfl) (by kernel_rfl) (fun _ _ _ h => h) (by kernel_rfl) (Ext.stable _) hCD (yieldsU_val rfl (fun u hu => by go_simp)) ?_
          refine anyU_takeP (i := 19) (j := 20) (v := .bool false) 66 [] rfl rfl (by kernel_rfl) (by kernel_rfl) (by kernel_rfl) (fun _ _ _ h => h) (by kernel_rfl) (Ext.stable _) hCD (yieldsU_val rfl (fun u hu => by go_simp)) ?_
          simp only [Act.put, List.setIfInBounds_toArray, List.set_cons_succ, List.set_cons_zero]
          refine anyU_tail 20 [] rfl rfl (by decide) (by kernel_rfl) ?_
          intro u hu
          simp only [Act.put, List.filterMap_cons, List.filterMap_nil, List.getElem?_cons_succ, List.getElem?_cons_zero]
          have BU := Lib.hid (bel_trans BX.out hu)
          clear hu CX CP BX
          go_wp2_with fail
          go_roundw
          case rel => exact ⟨k + 1, by omega, by simp, Lib.hid (fun i hi => by
            rcases Nat.lt_or_ge i k with h | h
            · exact HA.out i h
            · obtain rfl : i = k := by omega
              exact HGT.out), BU⟩
          case measure => simp [intOf]; omega
        · have hkm : k = m := by omega
          have HE := Lib.hid (show E = 0 by
            rw [← hE.out]
            exact chk_ok HS.out.1 HS.out.2 ⟨HAR.out, fun i hi => HA.out i (by have := HM.out; omega)⟩)
          have hd3 : decide ((k : Int) < (m : Int)) = false := decide_eq_false (by omega)
          clear hkm
          go_wp2_with fail
          go_ret
          rw [HE.out]
          exact ⟨rfl, HB.out⟩
end Go.Proofs.Ytilokkkodocoiaa
