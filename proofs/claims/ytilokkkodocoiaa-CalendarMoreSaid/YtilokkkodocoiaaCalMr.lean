/- A rule less, a gap less. -/
import Derived.Test.YtilokkkodocoiaaCalMm
namespace Go.Proofs.Ytilokkkodocoiaa
open Go.RowKit
set_option linter.unusedVariables false
set_option linter.unusedSimpArgs false
theorem inc_ext : ∀ {A B : List Int}, A.Pairwise (· < ·) → B.Pairwise (· < ·) → (∀ t, t ∈ A ↔ t ∈ B) → A = B
  | [], [], _, _, _ => rfl
  | [], y :: B, _, _, h => by have := (h y).2 List.mem_cons_self; cases this
  | x :: A, [], _, _, h => by have := (h x).1 List.mem_cons_self; cases this
  | x :: A, y :: B, hA, hB, h => by
    have hA' := List.pairwise_cons.1 hA
    have hB' := List.pairwise_cons.1 hB
    have hxy : x = y := by
      rcases List.mem_cons.1 ((h x).1 List.mem_cons_self) with e | e
      · exact e
      · rcases List.mem_cons.1 ((h y).2 List.mem_cons_self) with e2 | e2
        · exact e2.symm
        · have h1 := hB'.1 x e; have h2 := hA'.1 y e2; omega
    subst hxy
    rw [inc_ext hA'.2 hB'.2 (fun t => ?_)]
    constructor
    · intro ht
      rcases List.mem_cons.1 ((h t).1 (List.mem_cons_of_mem _ ht)) with e | e
      · have := hA'.1 t ht; omega
      · exact e
    · intro ht
      rcases List.mem_cons.1 ((h t).2 (List.mem_cons_of_mem _ ht)) with e | e
      · have := hB'.1 t ht; omega
      · exact e
theorem cut_mid {α : Type} {l : List α} {k : Nat} {d : α} (hk : k < l.length) : l = l.take k ++ l.getD k d :: l.drop (k + 1) := by
  have e : l.getD k d = l[k] := by rw [List.getD_eq_getElem?_getD, List.getElem?_eq_getElem hk]; rfl
  rw [e, ← List.drop_eq_getElem_cons hk, List.take_append_drop]
theorem any_mid {α : Type} {l : List α} {k : Nat} {d : α} (hk : k < l.length) (p : α → Bool) : l.any p = ((l.take k ++ l.drop (k + 1)).any p || p (l.getD k d)) := by
  conv => lhs; rw [cut_mid (d := d) hk]
  rw [List.any_append, List.any_cons, List.any_append]
  cases (l.take k).any p <;> cases (l.drop (k + 1)).any p <;> cases p (l.getD k d) <;> rfl
section
variable {rs : List Rl} {gs : List Gp} {a b : Int} {k : Nat}
theorem less_valR (hv : Valid rs gs) : Valid (rs.take k ++ rs.drop (k + 1)) gs :=
  ⟨fun x hx => (List.mem_append.1 hx).elim (fun h => hv.r x (List.mem_of_mem_take h)) (fun h => hv.r x (List.mem_of_mem_drop h)), hv.g⟩
theorem gap_step (hv : Valid rs gs) {i : Nat} (hi : i < gs.length) (h0 : ¬ i = 0) : (gs.getD (i - 1) gp0).2 < (gs.getD i gp0).1 := by
  have h := hv.g i hi
  unfold gapOk at h
  rw [Bool.and_eq_true, Bool.or_eq_true, decide_eq_true_eq, decide_eq_true_eq] at h
  exact h.2.resolve_left h0
theorem lessG_getD (hk : k < gs.length) (i : Nat) : (gs.take k ++ gs.drop (k + 1)).getD i gp0 = if i < k then gs.getD i gp0 else gs.getD (i + 1) gp0 := by
  rw [List.getD_eq_getElem?_getD]
  by_cases h : i < k
  · rw [List.getElem?_append_left (by rw [List.length_take]; omega), List.getElem?_take, if_pos h, if_pos h, List.getD_eq_getElem?_getD]
  · rw [List.getElem?_append_right (by rw [List.length_take]; omega), List.length_take, List.getElem?_drop, if_neg h, List.getD_eq_getElem?_getD, show k + 1 + (i - min k gs.length) = i + 1 by omega]
theorem less_valG (hv : Valid rs gs) (hk : k < gs.length) : Valid rs (gs.take k ++ gs.drop (k + 1)) := by
  refine ⟨hv.r, fun i hi => ?_⟩
  have hl : (gs.take k ++ gs.drop (k + 1)).length = gs.length - 1 := by rw [List.length_append, List.length_take, List.length_drop]; omega
  rw [hl] at hi
  unfold gapOk
  rw [Bool.and_eq_true, Bool.or_eq_true, decide_eq_true_eq, decide_eq_true_eq, okP_iff, lessG_getD hk i, lessG_getD hk (i - 1)]
  by_cases h : i < k
  · rw [if_pos h, if_pos (by omega)]
    refine ⟨hv.gap (by omega), ?_⟩
    by_cases h0 : i = 0
    · exact .inl h0
    · exact .inr (gap_step hv (by omega) h0)
  · rw [if_neg h]
    refine ⟨hv.gap (by omega), ?_⟩
    by_cases h0 : i = 0
    · exact .inl h0
    · right
      have s1 := gap_step hv (i := i + 1) (by omega) (by omega)
      rw [Nat.add_sub_cancel] at s1
      by_cases h1 : i - 1 < k
      · rw [if_pos h1]
        have hik : i = k := by omega
        have s2 := gap_step hv (i := i) (by omega) h0
        have s3 := hv.gap (i := i) (by omega)
        omega
      · rw [if_neg h1, show i - 1 + 1 = i by omega]
        exact s1
theorem lessR_dep (hk : k < rs.length) {t : Int} (h : depB (rs.take k ++ rs.drop (k + 1)) gs t = true) : depB rs gs t = true := by
  unfold depB at h ⊢
  rw [any_mid (d := rl0) hk (hitB · t)]
  rw [Bool.and_eq_true] at h ⊢
  exact ⟨h.1, by rw [h.2]; rfl⟩
theorem lessG_dep (hk : k < gs.length) {t : Int} : depB rs gs t = (!gapB (gs.getD k gp0) t && depB rs (gs.take k ++ gs.drop (k + 1)) t) := by
  unfold depB
  rw [any_mid (d := gp0) hk (gapB · t)]
  cases (gs.take k ++ gs.drop (k + 1)).any (gapB · t) <;> cases gapB (gs.getD k gp0) t <;> cases rs.any (hitB · t) <;> rfl
/-- a rule less: the moments that are left are some of them -/
theorem lessR_mom (h : momE rs gs a b = 0) (hk : k < rs.length) : momE (rs.take k ++ rs.drop (k + 1)) gs a b = 0 ∧ ∃ p : Int → Bool, momR (rs.take k ++ rs.drop (k + 1)) gs a b = (momR rs gs a b).filter p := by
  obtain ⟨hc, h0, h1, h2, h3, hR⟩ := mom_zero h
  obtain ⟨hv, n16, n64⟩ := chk_valid hc
  have hl : (rs.take k ++ rs.drop (k + 1)).length = rs.length - 1 := by rw [List.length_append, List.length_take, List.length_drop]; omega
  have hc' := chk_ok (rs := rs.take k ++ rs.drop (k + 1)) (gs := gs) (by omega) n64 (less_valR hv)
  have e : momL (rs.take k ++ rs.drop (k + 1)) gs a b = (momL rs gs a b).filter (depB (rs.take k ++ rs.drop (k + 1)) gs) :=
    inc_ext momL_inc (momL_inc.sublist List.filter_sublist) (fun t => by
      rw [List.mem_filter, momL_mem h2, momL_mem h2]
      constructor
      · rintro ⟨x1, x2, x3⟩; exact ⟨⟨x1, x2, lessR_dep hk x3⟩, x3⟩
      · rintro ⟨⟨x1, x2, _⟩, x3⟩; exact ⟨x1, x2, x3⟩)
  have hE := mom_ok hc' h0 h1 h2 (by rw [e]; exact Nat.le_trans (List.length_filter_le _ _) h3)
  exact ⟨hE, _, by rw [momR_ok hE, hR, e]⟩
/-- a gap less: the moments outside it are what they were -/
theorem lessG_mom (h : momE rs gs a b = 0) (hk : k < gs.length) : (momE rs (gs.take k ++ gs.drop (k + 1)) a b = 2 ∧ momR rs (gs.take k ++ gs.drop (k + 1)) a b = []) ∨
    (momE rs (gs.take k ++ gs.drop (k + 1)) a b = 0 ∧ (momR rs (gs.take k ++ gs.drop (k + 1)) a b).filter (fun t => !gapB (gs.getD k gp0) t) = momR rs gs a b) := by
  obtain ⟨hc, h0, h1, h2, h3, hR⟩ := mom_zero h
  obtain ⟨hv, n16, n64⟩ := chk_valid hc
  have hl : (gs.take k ++ gs.drop (k + 1)).length = gs.length - 1 := by rw [List.length_append, List.length_take, List.length_drop]; omega
  have hc' := chk_ok (rs := rs) (gs := gs.take k ++ gs.drop (k + 1)) n16 (by omega) (less_valG hv hk)
  have hb : badB a b = false := by unfold badB; simp; omega
  by_cases hbig : 2000 < (momL rs (gs.take k ++ gs.drop (k + 1)) a b).length
  · have hE := momE_big hc' hb hbig
    exact .inl ⟨hE, momR_nil (by rw [hE]; decide)⟩
  · have hE := mom_ok hc' h0 h1 h2 (by omega)
    refine .inr ⟨hE, ?_⟩
    rw [momR_ok hE, hR]
    exact inc_ext (momL_inc.sublist List.filter_sublist) momL_inc (fun t => by
      rw [List.mem_filter, momL_mem h2, momL_mem h2, lessG_dep hk, Bool.and_eq_true]
      constructor
      · rintro ⟨⟨x1, x2, x3⟩, x4⟩; exact ⟨x1, x2, x4, x3⟩
      · rintro ⟨x1, x2, x4, x3⟩; exact ⟨⟨x1, x2, x3⟩, x4⟩)
end
end Go.Proofs.Ytilokkkodocoiaa
