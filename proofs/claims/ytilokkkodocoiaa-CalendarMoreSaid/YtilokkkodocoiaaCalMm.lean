/- The moments: increasing, and all of them. -/
import Derived.Test.YtilokkkodocoiaaCalRDp
namespace Go.Proofs.Ytilokkkodocoiaa
open Go.RowKit
set_option linter.unusedVariables false
set_option linter.unusedSimpArgs false
section
variable {rs : List Rl} {gs : List Gp} {a b : Int}
theorem momL_inc : (momL rs gs a b).Pairwise (· < ·) := (depL_inc (rs := rs) (gs := gs) (a := a)).sublist (List.takeWhile_sublist _)
theorem inc_getD {L : List Int} (h : L.Pairwise (· < ·)) {j k : Nat} (hj : j < k) (hk : k < L.length) : L.getD j 0 < L.getD k 0 := by
  have := List.pairwise_iff_getElem.1 h j k (by omega) hk hj
  rw [List.getD_eq_getElem?_getD, List.getD_eq_getElem?_getD, List.getElem?_eq_getElem hk, List.getElem?_eq_getElem (show j < L.length by omega)]
  exact this
theorem mom_each (h : momE rs gs a b = 0) {L : List Int} (hL : momR rs gs a b = L) : L.Pairwise (· < ·) ∧ ∀ t, t ∈ L ↔ a ≤ t ∧ t < b ∧ depB rs gs t = true := by
  have hz := mom_zero h
  rw [hz.2.2.2.2.2] at hL
  subst hL
  exact ⟨momL_inc, fun t => momL_mem hz.2.2.2.1⟩
theorem mem_take_snoc {L : List Int} {k : Nat} {x y : Int} {v : Bool} (hk : k < L.length) (hy : L.getD k 0 = y) (hv : decide (x ∈ L.take k) = v) : decide (x ∈ L.take (k + 1)) = (v || decide (y = x)) := by
  rw [take_snocZ (d := 0) hk, hy, ← hv]
  simp [eq_comm]
end
end Go.Proofs.Ytilokkkodocoiaa
