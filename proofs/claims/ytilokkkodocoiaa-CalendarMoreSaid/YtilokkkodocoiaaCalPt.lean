/- The moments cut at a time; the moments and what follows. -/
import Derived.Test.YtilokkkodocoiaaCalSpc
namespace Go.Proofs.Ytilokkkodocoiaa
open Go.RowKit
set_option linter.unusedVariables false
set_option linter.unusedSimpArgs false
section
variable {rs : List Rl} {gs : List Gp} {a b c : Int}
theorem mom_zero (h : momE rs gs a b = 0) : chkE rs gs = 0 ∧ 0 ≤ a ∧ a ≤ b ∧ b ≤ 2097152 ∧ (momL rs gs a b).length ≤ 2000 ∧ momR rs gs a b = momL rs gs a b := by
  have hc : chkE rs gs = 0 := by
    by_cases hc : chkE rs gs = 0
    · exact hc
    · rw [momE_chk hc] at h; exact absurd h hc
  have hb : badB a b = false := by
    cases hb : badB a b with
    | false => rfl
    | true => rw [momE_bad hc hb] at h; cases h
  have hl : (momL rs gs a b).length ≤ 2000 := by
    by_cases hl : 2000 < (momL rs gs a b).length
    · rw [momE_big hc hb hl] at h; cases h
    · omega
  unfold badB at hb
  simp at hb
  exact ⟨hc, hb.1.1, hb.1.2, hb.2, hl, momR_ok h⟩
theorem mom_ok (hc : chkE rs gs = 0) (h0 : 0 ≤ a) (h1 : a ≤ b) (h2 : b ≤ 2097152) (h3 : (momL rs gs a b).length ≤ 2000) : momE rs gs a b = 0 :=
  momE_ok hc (by unfold badB; simp; omega) h3
theorem cut_depL : ∀ (k : Nat) (a c : Int), a ≤ c → (c - a).toNat = k → depL rs gs a = momL rs gs a c ++ depL rs gs c
  | 0, a, c, hac, hk => by
    have e : a = c := by omega
    subst e
    have e0 : momL rs gs a a = [] := by
      unfold momL
      cases hd : depL rs gs a with
      | nil => rfl
      | cons x l =>
        have hx := (mem_depL (rs := rs) (gs := gs) (a := a) (t := x)).1 (by rw [hd]; exact List.mem_cons_self)
        rw [List.takeWhile_cons, decide_eq_false (show ¬ x < a by omega)]; rfl
    rw [e0]; rfl
  | k+1, a, c, hac, hk => by
    have ih := cut_depL k (a + 1) c (by omega) (by omega)
    by_cases ha : a < 2097152
    · by_cases hd : depB rs gs a = true
      · have e := depL_hit ha hd
        unfold momL
        rw [e, List.takeWhile_cons, decide_eq_true (show a < c by omega), if_pos rfl]
        unfold momL at ih
        rw [List.cons_append, ← ih]
      · have e : depL rs gs a = depL rs gs (a + 1) := by rw [depL_cons ha, if_neg hd]
        unfold momL at ih ⊢
        rw [e]; exact ih
    · have e : depL rs gs a = [] := depL_end (by omega)
      have e2 : depL rs gs c = [] := depL_end (by omega)
      unfold momL; rw [e, e2]; rfl
theorem mem_tw {α : Type} {p : α → Bool} {t : α} : ∀ {l : List α}, t ∈ l.takeWhile p → t ∈ l ∧ p t = true
  | [], h => by simp at h
  | y :: l, h => by
    rw [List.takeWhile_cons] at h
    by_cases hy : p y = true
    · rw [if_pos hy] at h
      rcases List.mem_cons.1 h with rfl | h
      · exact ⟨List.mem_cons_self, hy⟩
      · exact ⟨List.mem_cons_of_mem _ (mem_tw h).1, (mem_tw h).2⟩
    · rw [if_neg hy] at h; cases h
theorem momL_lt {t : Int} (h : t ∈ momL rs gs a b) : a ≤ t ∧ t < b ∧ t < 2097152 ∧ depB rs gs t = true := by
  unfold momL at h
  have h1 := (mem_tw h).2
  have h2 := mem_depL.1 (mem_tw h).1
  have h3 := of_decide_eq_true h1
  exact ⟨h2.1, h3, h2.2.1, h2.2.2⟩
theorem momL_cut (h1 : a ≤ c) (h2 : c ≤ b) : momL rs gs a b = momL rs gs a c ++ momL rs gs c b := by
  have e := cut_depL (rs := rs) (gs := gs) _ a c h1 rfl
  conv => lhs; unfold momL
  rw [e, List.takeWhile_append_of_pos (fun t ht => decide_eq_true (by have := momL_lt ht; omega))]
  rfl
theorem momL_mem {t : Int} (hb : b ≤ 2097152) : t ∈ momL rs gs a b ↔ a ≤ t ∧ t < b ∧ depB rs gs t = true := by
  constructor
  · intro h; have := momL_lt h; exact ⟨this.1, this.2.1, this.2.2.2⟩
  · rintro ⟨h1, h2, h3⟩
    have hm : t ∈ depL rs gs a := mem_depL.2 ⟨h1, by omega, h3⟩
    rw [cut_depL (rs := rs) (gs := gs) _ a b (by omega) rfl] at hm
    rcases List.mem_append.1 hm with h | h
    · exact h
    · have := (mem_depL.1 h).1; omega
/-- where the moments stand when the first k were taken -/
def NxI (rs : List Rl) (gs : List Gp) (a b : Int) (k : Nat) (t : Int) : Prop := depL rs gs a = (momR rs gs a b).take k ++ depL rs gs t ∧ 0 ≤ t ∧ t ≤ 2097152
theorem nxI_start (h : momE rs gs a b = 0) : NxI rs gs a b 0 a := by
  obtain ⟨_, h0, h1, h2, _, _⟩ := mom_zero h
  exact ⟨by simp, h0, by omega⟩
theorem nxI_rest (h : momE rs gs a b = 0) {k : Nat} {t : Int} (hI : NxI rs gs a b k t) : depL rs gs t = (momR rs gs a b).drop k ++ (depL rs gs a).dropWhile (fun t => decide (t < b)) := by
  obtain ⟨_, _, _, _, _, hR⟩ := mom_zero h
  have e1 := hI.1
  have e2 := List.takeWhile_append_dropWhile (p := fun t => decide (t < b)) (l := depL rs gs a)
  change momL rs gs a b ++ _ = _ at e2
  rw [← hR] at e2
  have e3 : (momR rs gs a b).take k ++ depL rs gs t = (momR rs gs a b).take k ++ ((momR rs gs a b).drop k ++ (depL rs gs a).dropWhile (fun t => decide (t < b))) := by
    rw [← e1, ← List.append_assoc, List.take_append_drop, e2]
  exact List.append_cancel_left e3
theorem nxE_in (hc : chkE rs gs = 0) {t : Int} (h0 : 0 ≤ t) (h1 : t ≤ 2097152) : nxtE rs gs t = 0 := nxtE_ok hc (by unfold farB; simp; omega)
theorem nx_round (h : momE rs gs a b = 0) {k : Nat} {t x : Int} (hI : NxI rs gs a b k t) (hk : k < (momR rs gs a b).length) (hx : (momR rs gs a b).getD k 0 = x) :
    nxtE rs gs t = 0 ∧ nxtB rs gs t = true ∧ nxtM rs gs t = x ∧ NxI rs gs a b (k + 1) (x + 1) ∧ 0 ≤ x ∧ x < 2097152 := by
  have hc := (mom_zero h).1
  have hr := nxI_rest h hI
  obtain ⟨e1, h0, h1⟩ := hI
  have hx' : (momR rs gs a b)[k] = x := by rw [← hx, List.getD_eq_getElem?_getD, List.getElem?_eq_getElem hk]; rfl
  rw [List.drop_eq_getElem_cons hk, hx', List.cons_append] at hr
  have hm := (mem_depL (rs := rs) (gs := gs) (a := t) (t := x)).1 (by rw [hr]; exact List.mem_cons_self)
  have hE := nxE_in (gs := gs) hc h0 h1
  have hn := nxt_some hE hr
  have hnx : nx rs gs t = x := by unfold nx; rw [hr]; rfl
  have hco := (nx_cons hnx hm.2.1).1
  refine ⟨hE, hn.2, hn.1, ⟨?_, by omega, by omega⟩, by omega, hm.2.1⟩
  rw [e1, hco, List.take_succ_eq_append_getElem hk, hx', List.append_assoc]
  rfl
theorem nx_last (h : momE rs gs a b = 0) {t : Int} (hI : NxI rs gs a b (momR rs gs a b).length t) :
    nxtE rs gs t = 0 ∧ ((nxtB rs gs t = true ∧ b ≤ nxtM rs gs t) ∨ (nxtB rs gs t = false ∧ nxtM rs gs t = 0)) := by
  have hc := (mom_zero h).1
  have hr := nxI_rest h hI
  have hE := nxE_in (gs := gs) hc hI.2.1 hI.2.2
  rw [List.drop_length, List.nil_append] at hr
  refine ⟨hE, ?_⟩
  cases hd : depL rs gs t with
  | nil => exact .inr ⟨(nxt_none hE hd).2, (nxt_none hE hd).1⟩
  | cons x l =>
    refine .inl ⟨(nxt_some hE hd).2, ?_⟩
    rw [(nxt_some hE hd).1]
    rw [hd] at hr
    have h1 := List.head?_dropWhile_not (fun t => decide (t < b)) (depL rs gs a)
    rw [← hr] at h1
    simp at h1
    exact h1
end
end Go.Proofs.Ytilokkkodocoiaa
