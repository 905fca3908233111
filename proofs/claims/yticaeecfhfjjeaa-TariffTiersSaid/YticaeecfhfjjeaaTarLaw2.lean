/- The parts of a price. -/
import Derived.Test.YticaeecfhfjjeaaTarLaw
namespace Go.Proofs.Yticaeecfhfjjeaa
open Go.RowKit
set_option linter.unusedVariables false
theorem parts_rng {base leg : List Int} {ts : List Tr} {c l m : Int} : ∀ z ∈ partsZ base leg ts c l m, 0 ≤ z ∧ z ≤ 1048576 := by
  intro z hz
  unfold partsZ at hz
  split at hz
  · rename_i h
    obtain ⟨k, L, rfl, rfl, h1, h2, h3, h4, h5, _⟩ := err_nat h
    rw [List.eq_of_mem_replicate hz, Int.toNat_natCast]
    exact h5
  · simp at hz
theorem parts_bd {base leg : List Int} {ts : List Tr} {c l m : Int} : ∀ z ∈ partsZ base leg ts c l m, i64B z := by
  intro z hz; have := parts_rng z hz; exact ⟨by omega, by omega⟩
end Go.Proofs.Yticaeecfhfjjeaa
