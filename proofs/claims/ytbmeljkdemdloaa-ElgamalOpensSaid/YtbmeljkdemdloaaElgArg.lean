/- An argument that is a slice of ints. -/
import Derived.Test.YtbmeljkdemdloaaArr
import Derived.Test.YtbmeljkdemdloaaElgRef
namespace Go.Proofs.Ytbmeljkdemdloaa
open Go.ChangeShapes Go.WideShapes Go.ChangeAt Go.RowKit
set_option linter.unusedVariables false
section
variable {H : Type} {enc : TypeId × Value → H} {P : Program} {w : World} {base : Nat} {spare : Nat → Bool} {held : Bool}
theorem lt_of_cell {w : World} {a : Addr} {v : Value} (h : w.cell? a = some v) : a.block < w.heap.size := by
  rcases Nat.lt_or_ge a.block w.heap.size with h1 | h1
  · exact h1
  · simp [World.cell?, Array.getElem?_eq_none h1] at h
theorem open_intsV {r : Reach} {b0 : Nat} {t e : TypeId} {v : Value} {d : DataW H} {ps : List MemPlace} (ht : P.underlying t = some (.slice e)) (he : P.underlying e = some (.int .i64)) (hc : P.cellsOf e = 1)
    (hval : Value.okWide P w r b0 t v) (hd : DataW.Trod enc P w base spare held t v d ps) :
    ∃ p n cap zs, v = .slice p n cap ∧ IntsV w p n cap zs ∧ (∀ z ∈ zs, (Lit.int .i64 z).wf = true) := by
  obtain ⟨a, len, cap, rfl⟩ := okWide_slice ht hval
  obtain ⟨fuel, hf⟩ := hd
  rcases open_ints ht he hc hf with ⟨hcs, _⟩ | ⟨x, l, c, zs, hcs, _, hl, hm, hz, _, hcell, hwz⟩
  · simp [Value.cells] at hcs
    obtain ⟨rfl, rfl, rfl⟩ := hcs
    exact ⟨none, 0, 0, [], rfl, ⟨rfl, by omega, .inl rfl⟩, by simp⟩
  · simp [Value.cells] at hcs
    obtain ⟨rfl, rfl, rfl⟩ := hcs
    have hlz : len ≤ zs.length := by rw [hz]; split <;> omega
    have hml : maxLen ≤ 9223372036854775807 := by decide
    refine ⟨some x, len, cap, zs.take len, rfl, ⟨by rw [List.length_take]; omega, by omega, ?_⟩, fun z h => hwz z (List.mem_of_mem_take h)⟩
    by_cases h0 : len = 0
    · exact .inl h0
    · right
      obtain ⟨b, off, rfl, hj⟩ := Go.ints_at hcell (by omega)
      refine ⟨b, off, rfl, ?_, ?_⟩
      · have := lt_of_cell (hj 0 (by omega)); exact this
      · intro j hj'
        rw [List.length_take] at hj'
        rw [hj j (by omega)]
        simp only [List.getD_eq_getElem?_getD, List.getElem?_take, show j < len by omega, if_true]
end
end Go.Proofs.Ytbmeljkdemdloaa
