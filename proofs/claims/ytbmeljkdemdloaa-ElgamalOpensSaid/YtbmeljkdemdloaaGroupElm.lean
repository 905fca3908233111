/- Numbers and elements: what they are to each other. -/
import Derived.Test.YtbmeljkdemdloaaGroupFacts
namespace Go.Proofs.Ytbmeljkdemdloaa
set_option linter.unusedVariables false

theorem elm_range {n : Int} (h : 1 ≤ n ∧ n ≤ 1073741789) : elB (elmZ n) = true := by
  unfold elmZ; rw [if_pos h]
  cases hv : elB n with
  | true => rw [if_pos rfl]; exact hv
  | false => rw [if_neg (by simp), element_low (by omega) (by omega), hv]; rfl

/-- different numbers have different elements -/
theorem elm_inj {n m : Int} (h : 1 ≤ n ∧ n ≤ 1073741789) (k : 1 ≤ m ∧ m ≤ 1073741789) : (elmZ n == elmZ m) = (n == m) := by
  by_cases e : n = m
  · subst e; simp
  · rw [beq_eq_false_iff_ne.2 e, beq_eq_false_iff_ne]
    unfold elmZ; rw [if_pos h, if_pos k]
    split <;> split <;> omega

theorem num_elm {n : Int} (h : 1 ≤ n ∧ n ≤ 1073741789) : numZ (elmZ n) = n ∧ numE (elmZ n) = 0 := by
  have hr := elm_range h
  unfold numZ numE; rw [hr, if_pos rfl, if_pos rfl]
  refine ⟨?_, rfl⟩
  unfold elmZ; rw [if_pos h]
  split <;> split <;> omega

theorem elm_num {n : Int} (h : elB n = true) : (1 ≤ numZ n ∧ numZ n ≤ 1073741789) ∧ elmZ (numZ n) = n := by
  obtain ⟨h1, h2⟩ := elB_iff h
  unfold numZ; rw [h, if_pos rfl]
  by_cases c : n ≤ 1073741789
  · rw [if_pos c]
    refine ⟨by omega, ?_⟩
    unfold elmZ; rw [if_pos (by omega), h]; rfl
  · rw [if_neg c]
    refine ⟨by omega, ?_⟩
    unfold elmZ; rw [if_pos (by omega), element_low (by omega) (by omega), h]
    show (if (false = true) then _ else _) = n
    rw [if_neg (by simp)]; omega

end Go.Proofs.Ytbmeljkdemdloaa
