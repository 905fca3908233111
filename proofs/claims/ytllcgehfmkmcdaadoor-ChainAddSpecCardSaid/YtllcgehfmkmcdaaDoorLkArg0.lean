/- A row of bytes in an argument. -/
import Derived.IntWalk
import Derived.WalkKit
import Derived.WalkSpells
import Derived.Deep.QuietTactic
import Derived.Deep.Matrix
import Derived.Deep.SlicePairs
import Derived.Deep.Fields
import Derived.Lib.SmallJoins
import Derived.Test.YtllcgehfmkmcdaaDoorLstOpn
import Derived.Test.YtllcgehfmkmcdaaDoorChnMem
namespace Go.Proofs.YtllcgehfmkmcdaaDoor
open Go.RowKit
set_option linter.unusedVariables false

/-- a row: where it lies, its length, its room, its bytes -/
structure Rw where
  p : Option Addr
  m : Nat
  c : Nat
  bs : List Int
abbrev Rw.v (r : Rw) : Value := .slice r.p r.m r.c
def rw0 : Rw := ⟨none, 0, 0, []⟩
def RwOk (w : World) (r : Rw) : Prop := SrcW w r.p r.m r.c r.bs ∧ (∀ z ∈ r.bs, 0 ≤ z ∧ z ≤ 255) ∧ r.m ≤ 9223372036854775807 ∧ r.m ≤ r.c ∧ r.c ≤ 9223372036854775807
end Go.Proofs.YtllcgehfmkmcdaaDoor
namespace Go.Proofs.YtllcgehfmkmcdaaDoor
open Go.ChangeShapes Go.WideShapes Go.ChangeAt Go.RowKit Go.Deep Go.Joins
set_option linter.unusedVariables false
set_option linter.unusedSimpArgs false

theorem add_noneD (b off k : Nat) : (⟨b, off, none⟩ : Addr).add k = ⟨b, off + k, none⟩ := by
  unfold Addr.add; split
  · rename_i h; subst h; rfl
  · rfl
theorem maxl : maxLen ≤ 9223372036854775807 := by decide
theorem row_ok {w : World} {A : Option Addr} {L C : Nat} {Z : List Int} (h1 : L ≤ C) (h2 : C ≤ maxLen) (h3 : Z.length = C) (h4 : ∀ n ∈ Z, (Lit.int .u8 n).wf = true) (h5 : A = none → C = 0)
    (h6 : ∀ a', A = some a' → ∀ c, c < C → w.cell? (a'.add c) = some (.int .u8 (Z.getD c 0))) : RwOk w ⟨A, L, C, Z.take L⟩ := by
  have hl := maxl
  refine ⟨?_, fun z hz => ?_, by show L ≤ _; omega, h1, by show C ≤ _; omega⟩
  · have hlen : (Z.take L).length = L := by rw [List.length_take]; omega
    cases A with
    | none =>
      have := h5 rfl
      exact .inl ⟨hlen.symm, .inl ⟨rfl, by show L = 0; omega, this⟩⟩
    | some a =>
      by_cases h0 : C = 0
      · exact .inr ⟨List.eq_nil_of_length_eq_zero (by show (Z.take L).length = 0; omega), by show L = 0; omega, h0, a, rfl⟩
      · obtain ⟨b, off, spot⟩ := a
        have hs : spot = none := by
          have := World.cell?_spot (h6 _ rfl 0 (by omega))
          simpa [Addr.add] using this
        subst hs
        have hc := h6 _ rfl
        simp only [add_noneD] at hc
        refine .inl ⟨hlen.symm, .inr ⟨b, off, rfl, lt_of_cell (a := ⟨b, off + 0, none⟩) (hc 0 (by omega)), fun j hj => ?_⟩⟩
        have hj' : j < L := by have : j < (Z.take L).length := hj; omega
        rw [hc j (by omega)]
        simp only [List.getD_eq_getElem?_getD, List.getElem?_take, hj', if_true]
  · exact bounds_u8 (h4 z (List.mem_of_mem_take hz))
end Go.Proofs.YtllcgehfmkmcdaaDoor
