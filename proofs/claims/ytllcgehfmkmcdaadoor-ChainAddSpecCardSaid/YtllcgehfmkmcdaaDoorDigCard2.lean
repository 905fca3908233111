/- How a digest by value and a byte open. -/
import Derived.Test.YtllcgehfmkmcdaaDoorDigCard
namespace Go.Proofs.YtllcgehfmkmcdaaDoor
open Go.ChangeShapes Go.WideShapes Go.ChangeAt Go.RowKit Go.WideElems
set_option linter.unusedVariables false
set_option linter.unusedSimpArgs false
section
variable {H : Type} {enc : TypeId × Value → H} {P : Program} {w : World} {base : Nat} {held : Bool} {spare : Nat → Bool}
theorem int_of_trod8 {e : TypeId} {k : IntKind} {fuel : Nat} {v : Value} {x : DataW H × List MemPlace} (he : P.underlying e = some (.int k)) (h : DataW.trod enc P w base spare held fuel e [v] = some x) : ∃ n, v = .int k n ∧ (Lit.int k n).wf = true := by
  obtain ⟨n, e1, e2, e3⟩ := DataW.trod_int he h
  simp at e1
  exact ⟨n, e1, e3⟩
theorem open_dig {r : Reach} {b0 : Nat} {t e : TypeId} {v : Value} {d : DataW H} {ps : List MemPlace} (ht : P.underlying t = some (.array 32 e)) (he : P.underlying e = some (.int .u8)) (hc : P.cellsOf e = 1) (hcT : P.cellsOf t = 32)
    (hval : Value.okWide P w r b0 t v) (hd : DataW.Trod enc P w base spare held t v d ps) : ∃ zs : List Int, v = .agg (bv zs).toArray ∧ zs.length = 32 ∧ ∀ z ∈ zs, 0 ≤ z ∧ z ≤ 255 := by
  simp only [Value.okWide, ht] at hval
  obtain ⟨cs, rfl, hsz, _⟩ := hval
  obtain ⟨fuel, hf⟩ := hd
  obtain ⟨l⟩ := cs
  have hl : l.length = 32 := hsz.trans hcT
  obtain ⟨xs, m, _, _, _, hxl, hi⟩ := DataW.trod_array ht hf
  rw [hc] at hi
  have each : ∀ c ∈ l, ∃ n, c = .int .u8 n ∧ (Lit.int .u8 n).wf = true := by
    intro c hcm
    obtain ⟨i, hil, rfl⟩ := List.getElem_of_mem hcm
    have h1 := hi i (by omega)
    have e1 : ((Value.agg ⟨l⟩).cells.toList.drop (i * 1)).take 1 = [l[i]] := by
      have : (Value.agg ⟨l⟩).cells.toList = l := by simp [Value.cells]
      rw [this, Nat.mul_one, List.drop_eq_getElem_cons hil]; rfl
    rw [List.getElem?_eq_getElem (by omega : i < xs.length)] at h1
    rw [e1] at h1
    exact int_of_trod8 he h1
  refine ⟨l.map intOf, ?_, by simp [hl], ?_⟩
  · have : bv (l.map intOf) = l := by
      unfold bv
      rw [List.map_map]
      conv => rhs; rw [← List.map_id l]
      apply List.map_congr_left
      intro c hcm
      obtain ⟨n, rfl, _⟩ := each c hcm
      rfl
    rw [this]
  · intro z hz
    obtain ⟨c, hcm, rfl⟩ := List.mem_map.1 hz
    obtain ⟨n, rfl, hw⟩ := each c hcm
    exact bounds_u8 hw
theorem open_u8 {r : Reach} {b0 : Nat} {t : TypeId} {v : Value} {d : DataW H} {ps : List MemPlace} (ht : P.underlying t = some (.int .u8))
    (hval : Value.okWide P w r b0 t v) (hd : DataW.Trod enc P w base spare held t v d ps) : ∃ z : Int, v = .int .u8 z ∧ 0 ≤ z ∧ z ≤ 255 := by
  obtain ⟨a, rfl, _, _, w0⟩ := open_int ht hval hd
  exact ⟨a, rfl, bounds_u8 w0⟩
end
end Go.Proofs.YtllcgehfmkmcdaaDoor
