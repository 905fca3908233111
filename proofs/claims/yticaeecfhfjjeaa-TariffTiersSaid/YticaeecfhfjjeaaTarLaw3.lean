/- What is right about the parts of a price. -/
import Derived.Test.YticaeecfhfjjeaaTarLaw2
namespace Go.Proofs.Yticaeecfhfjjeaa
open Go.RowKit
set_option linter.unusedVariables false
theorem parts_ok {base leg : List Int} {ts : List Tr} {c l m : Int} (h : errE base leg ts c l m = 0) :
    (partsZ base leg ts c l m).length = l ∧ (partsZ base leg ts c l m).length ≤ 8 ∧ (0 ≤ restZ base leg ts c l m ∧ restZ base leg ts c l m ≤ 2097152) ∧ restZ base leg ts c l m + (partsZ base leg ts c l m).sum = priceZ base leg ts c l m := by
  obtain ⟨k, L, rfl, rfl, h1, h2, h3, h4, h5, h6, h7⟩ := err_nat h
  have hs : ∀ n : Nat, (List.replicate n (leg.getD k 0)).sum = n * leg.getD k 0 := by
    intro n
    induction n with
    | zero => simp
    | succ n ih => rw [List.replicate_succ, List.sum_cons, ih, Int.natCast_succ, Int.add_mul]; omega
  unfold partsZ restZ priceZ
  simp only [if_pos h, Int.toNat_natCast, List.length_replicate, hs]
  refine ⟨trivial, h4, ⟨by omega, by omega⟩, by omega⟩
theorem parts_no {base leg : List Int} {ts : List Tr} {c l m : Int} (h : errE base leg ts c l m ≠ 0) :
    partsZ base leg ts c l m = [] ∧ restZ base leg ts c l m = 0 ∧ priceZ base leg ts c l m = 0 := by
  unfold partsZ restZ priceZ
  simp [if_neg h]
end Go.Proofs.Yticaeecfhfjjeaa
