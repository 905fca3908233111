/- An argument that is a list of rows of bytes. -/
import Derived.Test.YtllcgehfmkmcdaaDoorLkArg
namespace Go.Proofs.YtllcgehfmkmcdaaDoor
open Go.ChangeShapes Go.WideShapes Go.ChangeAt Go.RowKit Go.WideElems Go.Deep Go.Joins
set_option linter.unusedVariables false
set_option linter.unusedSimpArgs false

theorem RwOk.below {w w' : World} {r : Rw} (h : RwOk w r) (k : Below w.heap.size w w') : RwOk w' r := ⟨h.1.below k, h.2⟩
def SecsAt (w : World) (b off : Nat) (rs : List Rw) : Prop := ∀ j, j < rs.length → w.cell? ⟨b, off + j, none⟩ = some (rs.getD j rw0).v
def SecsV (w : World) (p : Option Addr) (n : Nat) (rs : List Rw) : Prop :=
  n = rs.length ∧ n ≤ 9223372036854775807 ∧ (∀ r ∈ rs, RwOk w r) ∧ (n = 0 ∨ ∃ b off, p = some ⟨b, off, none⟩ ∧ b < w.heap.size ∧ SecsAt w b off rs)
theorem SecsV.below {w w' : World} {p : Option Addr} {n : Nat} {rs : List Rw} (h : SecsV w p n rs) (k : Below w.heap.size w w') : SecsV w' p n rs := by
  obtain ⟨h1, h2, h4, h3⟩ := h
  refine ⟨h1, h2, fun r hr => (h4 r hr).below k, ?_⟩
  rcases h3 with h3 | ⟨b, off, rfl, hb, hc⟩
  · exact .inl h3
  · exact .inr ⟨b, off, rfl, Nat.lt_of_lt_of_le hb k.size, fun j hj => (k.cell (p := ⟨b, off + j, none⟩) hb).trans (hc j hj)⟩
theorem getD_memR {α : Type} {zs : List α} {k : Nat} {d : α} (h : k < zs.length) : zs.getD k d ∈ zs := by
  rw [List.getD_eq_getElem?_getD, List.getElem?_eq_getElem h]; exact List.getElem_mem h
theorem SecsV.at {w : World} {p : Option Addr} {n : Nat} {rs : List Rw} (h : SecsV w p n rs) {k : Nat} (hk : k < n) : ∃ b off, p = some ⟨b, off, none⟩ ∧ b < w.heap.size ∧ w.cell? ⟨b, off + k, none⟩ = some (rs.getD k rw0).v ∧ RwOk w (rs.getD k rw0) := by
  obtain ⟨h1, h2, h4, h3⟩ := h
  rcases h3 with h3 | ⟨b, off, rfl, hb, hc⟩
  · omega
  · exact ⟨b, off, rfl, hb, hc k (by omega), h4 _ (getD_memR (by omega))⟩
section
variable {H : Type} {enc : TypeId × Value → H} {P : Program} {w : World} {base : Nat} {held : Bool}
theorem secs_of_trod {t e q : TypeId} {fuel : Nat} {v : Value} {x : DataW H × List MemPlace} (ht : P.underlying t = some (.slice e)) (he : P.underlying e = some (.slice q)) (hq : P.underlying q = some (.int .u8)) (ce : P.cellsOf e = 1) (cq : P.cellsOf q = 1)
    (hf : DataW.trod enc P w base (fun _ => true) held fuel t [v] = some x) : ∃ p n cap rs, v = .slice p n cap ∧ SecsV w p n rs ∧ n ≤ cap ∧ cap ≤ 9223372036854775807 ∧ (p = none → n = 0 ∧ cap = 0) := by
  have hl := maxl
  rcases open_int_rows ht he hq ce cq hf with ⟨hcs, _⟩ | ⟨a, l, c, A, L, C, Z, hcs, _, h1, h2, _, hi⟩
  · simp at hcs
    exact ⟨none, 0, 0, [], hcs, ⟨rfl, by omega, by simp, .inl rfl⟩, by omega, by omega, fun _ => ⟨rfl, rfl⟩⟩
  · simp at hcs
    refine ⟨some a, l, c, (List.range l).map fun r => ⟨A r, L r, C r, (Z r).take (L r)⟩, hcs, ⟨by simp, by omega, ?_, ?_⟩, h1, by omega, fun h => by cases h⟩
    · intro r hr
      obtain ⟨i, hi', rfl⟩ := List.mem_map.1 hr
      obtain ⟨k0, k1, k2, k3, k4, k5, k6⟩ := hi i (by have := List.mem_range.1 hi'; omega)
      exact row_ok k1 k2 k3 k4 k5 (fun a' ha => (k6 a' ha).2)
    · by_cases h0 : l = 0
      · exact .inl h0
      · right
        obtain ⟨b, off, spot⟩ := a
        have hs : spot = none := by
          have := World.cell?_spot (hi 0 (by omega)).1
          simpa [Addr.add] using this
        subst hs
        refine ⟨b, off, rfl, lt_of_cell (a := ⟨b, off + 0, none⟩) (by rw [← add_noneD]; exact (hi 0 (by omega)).1), ?_⟩
        intro j hj
        simp only [List.length_map, List.length_range] at hj
        have k0 := (hi j (by omega)).1
        rw [add_noneD] at k0
        rw [k0]
        simp [Rw.v, hj]
theorem open_secs {r : Reach} {b0 : Nat} {v : Value} {d : DataW H} {ps : List MemPlace} {t e q : TypeId} (ht : P.underlying t = some (.slice e)) (he : P.underlying e = some (.slice q)) (hq : P.underlying q = some (.int .u8)) (ce : P.cellsOf e = 1) (cq : P.cellsOf q = 1)
    (hv : Value.okWide P w r b0 t v) (hd : DataW.Trod enc P w base (fun _ => true) held t v d ps) : ∃ p n cap rs, v = .slice p n cap ∧ SecsV w p n rs ∧ n ≤ cap ∧ cap ≤ 9223372036854775807 ∧ (p = none → n = 0 ∧ cap = 0) := by
  obtain ⟨a0, n, cap, rfl⟩ := okWide_slice ht hv
  obtain ⟨fuel, hf⟩ := hd
  exact secs_of_trod ht he hq ce cq (show DataW.trod enc P w base (fun _ => true) held fuel t [.slice a0 n cap] = _ from hf)
end
end Go.Proofs.YtllcgehfmkmcdaaDoor
