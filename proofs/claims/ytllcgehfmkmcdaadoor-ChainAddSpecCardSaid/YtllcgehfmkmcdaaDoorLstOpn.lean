/- How a list of digests opens. -/
import Derived.Test.YtllcgehfmkmcdaaDoorDigCard
import Derived.Test.YtllcgehfmkmcdaaDoorDigCard2
import Derived.Test.YtllcgehfmkmcdaaDoorLstZ
import Derived.Lib.SmallJoins
import Derived.Deep.Fields
import Derived.Deep.SlicePairs
namespace Go.Proofs.YtllcgehfmkmcdaaDoor
open Go.ChangeShapes Go.WideShapes Go.ChangeAt Go.RowKit Go.WideElems Go.Deep Go.Joins
set_option linter.unusedVariables false
set_option linter.unusedSimpArgs false

theorem add_addS (a : Addr) (i j : Nat) : (a.add i).add j = a.add (i + j) := by
  unfold Addr.add
  by_cases hi : i = 0 <;> by_cases hj : j = 0 <;> simp_all <;> omega
theorem add_noneS (b off n : Nat) : (⟨b, off, none⟩ : Addr).add n = ⟨b, off + n, none⟩ := by
  unfold Addr.add
  by_cases h : n = 0 <;> simp_all
theorem choose_ltS {α : Type} [Inhabited α] {n : Nat} {p : Nat → α → Prop} (h : ∀ i, i < n → ∃ y, p i y) : ∃ f : Nat → α, ∀ i, i < n → p i (f i) :=
  ⟨fun i => if hi : i < n then (h i hi).choose else default, fun i hi => by show p i (if hi : i < n then (h i hi).choose else default); rw [dif_pos hi]; exact (h i hi).choose_spec⟩
section
variable {H : Type} {enc : TypeId × Value → H} {w : World} {base : Nat} {spare : Nat → Bool} {held : Bool}
theorem dig_cells {fuel : Nat} {cs : List Value} {x : DataW H × List MemPlace} (h : DataW.trod enc Tryd.prog w base spare held fuel 35 cs = some x) (hl : cs.length = 32) : ∃ zs : List Int, cs = bv zs ∧ zs.length = 32 ∧ ∀ z ∈ zs, 0 ≤ z ∧ z ≤ 255 := by
  have hc : Tryd.prog.cellsOf 5 = 1 := by kernel_rfl
  obtain ⟨xs, m, _, _, _, hxl, hi⟩ := DataW.trod_array Tryd.underlying35 h
  rw [hc] at hi
  have each : ∀ c ∈ cs, ∃ n, c = .int .u8 n ∧ (Lit.int .u8 n).wf = true := by
    intro c hcm
    obtain ⟨i, hil, rfl⟩ := List.getElem_of_mem hcm
    have h1 := hi i (by omega)
    have e1 : (cs.drop (i * 1)).take 1 = [cs[i]] := by
      rw [Nat.mul_one, List.drop_eq_getElem_cons hil]; rfl
    rw [List.getElem?_eq_getElem (by omega : i < xs.length)] at h1
    rw [e1] at h1
    exact int_of_trod8 Tryd.underlying5 h1
  refine ⟨cs.map intOf, ?_, by simp [hl], ?_⟩
  · have : bv (cs.map intOf) = cs := by
      unfold bv
      rw [List.map_map]
      conv => rhs; rw [← List.map_id cs]
      apply List.map_congr_left
      intro c hcm
      obtain ⟨n, rfl, _⟩ := each c hcm
      rfl
    rw [this]
  · intro z hz
    obtain ⟨c, hcm, rfl⟩ := List.mem_map.1 hz
    obtain ⟨n, rfl, hw⟩ := each c hcm
    exact bounds_u8 hw
end
section
variable {H : Type} {enc : TypeId × Value → H} {w : World} {base : Nat} {held : Bool}
end
end Go.Proofs.YtllcgehfmkmcdaaDoor
