/- Arguments that are slices of three numbers, slices of bytes. -/
import Derived.Test.YtbmeljkdemdloaaElgOpens0
import Derived.Deep.Slices
namespace Go.Proofs.Ytbmeljkdemdloaa
open Go.ChangeShapes Go.WideShapes Go.ChangeAt Go.RowKit Go.Shelf Go.Deep
set_option linter.unusedVariables false

abbrev T3 := Int × Int × Int
def ThreesAt (w : World) (b off : Nat) (ts : List T3) : Prop := ∀ j, j < ts.length →
  w.cell? ⟨b, off + j * 3, none⟩ = some (.int .i64 (ts.getD j (0, 0, 0)).1) ∧ w.cell? ⟨b, off + j * 3 + 1, none⟩ = some (.int .i64 (ts.getD j (0, 0, 0)).2.1) ∧ w.cell? ⟨b, off + j * 3 + 2, none⟩ = some (.int .i64 (ts.getD j (0, 0, 0)).2.2)
def ThreesV (w : World) (p : Option Addr) (n : Nat) (ts : List T3) : Prop :=
  n = ts.length ∧ n ≤ 9223372036854775807 ∧ (n = 0 ∨ ∃ b off, p = some ⟨b, off, none⟩ ∧ b < w.heap.size ∧ ThreesAt w b off ts)
def BytesV (w : World) (p : Option Addr) (n : Nat) (zs : List Int) : Prop :=
  n = zs.length ∧ n ≤ 9223372036854775807 ∧ (∀ z ∈ zs, 0 ≤ z ∧ z ≤ 255) ∧ (n = 0 ∨ ∃ b off, p = some ⟨b, off, none⟩ ∧ b < w.heap.size ∧ ∀ j, j < zs.length → w.cell? ⟨b, off + j, none⟩ = some (.int .u8 (zs.getD j 0)))
theorem ThreesV.below {w w' : World} {p : Option Addr} {n : Nat} {ts : List T3} (h : ThreesV w p n ts) (k : Below w.heap.size w w') : ThreesV w' p n ts := by
  obtain ⟨h1, h2, h3⟩ := h
  refine ⟨h1, h2, ?_⟩
  rcases h3 with h3 | ⟨b, off, rfl, hb, hc⟩
  · exact .inl h3
  · exact .inr ⟨b, off, rfl, Nat.lt_of_lt_of_le hb k.size, fun j hj => ⟨(k.cell (p := ⟨b, off + j * 3, none⟩) hb).trans (hc j hj).1, (k.cell (p := ⟨b, off + j * 3 + 1, none⟩) hb).trans (hc j hj).2.1, (k.cell (p := ⟨b, off + j * 3 + 2, none⟩) hb).trans (hc j hj).2.2⟩⟩
theorem BytesV.below {w w' : World} {p : Option Addr} {n : Nat} {zs : List Int} (h : BytesV w p n zs) (k : Below w.heap.size w w') : BytesV w' p n zs := by
  obtain ⟨h1, h2, h4, h3⟩ := h
  refine ⟨h1, h2, h4, ?_⟩
  rcases h3 with h3 | ⟨b, off, rfl, hb, hc⟩
  · exact .inl h3
  · exact .inr ⟨b, off, rfl, Nat.lt_of_lt_of_le hb k.size, fun j hj => (k.cell (p := ⟨b, off + j, none⟩) hb).trans (hc j hj)⟩
theorem ThreesV.at {w : World} {p : Option Addr} {n : Nat} {ts : List T3} (h : ThreesV w p n ts) {k : Nat} (hk : k < n) : ∃ b off, p = some ⟨b, off, none⟩ ∧ b < w.heap.size ∧
    w.cell? ⟨b, off + k * 3, none⟩ = some (.int .i64 (ts.getD k (0, 0, 0)).1) ∧ w.cell? ⟨b, off + k * 3 + 1, none⟩ = some (.int .i64 (ts.getD k (0, 0, 0)).2.1) ∧ w.cell? ⟨b, off + k * 3 + 2, none⟩ = some (.int .i64 (ts.getD k (0, 0, 0)).2.2) := by
  obtain ⟨h1, h2, h3⟩ := h
  rcases h3 with h3 | ⟨b, off, rfl, hb, hc⟩
  · omega
  · exact ⟨b, off, rfl, hb, hc k (by omega)⟩
theorem BytesV.at {w : World} {p : Option Addr} {n : Nat} {zs : List Int} (h : BytesV w p n zs) {k : Nat} (hk : k < n) : ∃ b off, p = some ⟨b, off, none⟩ ∧ b < w.heap.size ∧ w.cell? ⟨b, off + k, none⟩ = some (.int .u8 (zs.getD k 0)) ∧ 0 ≤ zs.getD k 0 ∧ zs.getD k 0 ≤ 255 := by
  obtain ⟨h1, h2, h4, h3⟩ := h
  rcases h3 with h3 | ⟨b, off, rfl, hb, hc⟩
  · omega
  · have := h4 _ (getD_mem (zs := zs) (k := k) (d := 0) (by omega))
    exact ⟨b, off, rfl, hb, hc k (by omega), this.1, this.2⟩

section
variable {H : Type} {enc : TypeId × Value → H} {P : Program} {w : World} {base : Nat} {spare : Nat → Bool} {held : Bool}
theorem open_bytesV {r : Reach} {b0 : Nat} {t e : TypeId} {v : Value} {d : DataW H} {ps : List MemPlace} (ht : P.underlying t = some (.slice e)) (he : P.underlying e = some (.int .u8)) (hc : P.cellsOf e = 1)
    (hval : Value.okWide P w r b0 t v) (hd : DataW.Trod enc P w base spare held t v d ps) : ∃ p n cap zs, v = .slice p n cap ∧ BytesV w p n zs := by
  obtain ⟨p, n, cap, rfl⟩ := okWide_slice ht hval
  obtain ⟨fuel, hf⟩ := hd
  rcases open_ints ht he hc hf with ⟨hcs, _⟩ | ⟨a, l, c, zs, hcs, _, hl, hm, hz, _, hcell, hwz⟩
  · simp [Value.cells] at hcs
    obtain ⟨rfl, rfl, rfl⟩ := hcs
    exact ⟨none, 0, 0, [], rfl, rfl, by omega, by simp, .inl rfl⟩
  · simp [Value.cells] at hcs
    obtain ⟨rfl, rfl, rfl⟩ := hcs
    have hlz : n ≤ zs.length := by rw [hz]; split <;> omega
    have hml : maxLen ≤ 9223372036854775807 := by decide
    refine ⟨some a, n, cap, zs.take n, rfl, by rw [List.length_take]; omega, by omega, fun z h => bounds_u8 (hwz z (List.mem_of_mem_take h)), ?_⟩
    by_cases h0 : n = 0
    · exact .inl h0
    · right
      obtain ⟨b, off, spot⟩ := a
      have hs : spot = none := by
        have := World.cell?_spot (hcell 0 (by omega))
        simpa [Addr.add] using this
      subst hs
      refine ⟨b, off, rfl, lt_of_cell (a := ⟨b, off + 0, none⟩) (by rw [← add_none]; exact hcell 0 (by omega)), ?_⟩
      intro j hj'
      rw [List.length_take] at hj'
      rw [← add_none, hcell j (by omega)]
      simp only [List.getD_eq_getElem?_getD, List.getElem?_take, show j < n by omega, if_true]

theorem open_threes {r : Reach} {b0 : Nat} {t e e' : TypeId} {v : Value} {d : DataW H} {ps : List MemPlace} (ht : P.underlying t = some (.slice e)) (he : P.underlying e = some (.array 3 e')) (he' : P.underlying e' = some (.int .i64)) (ce : P.cellsOf e = 3) (ce' : P.cellsOf e' = 1)
    (hval : Value.okWide P w r b0 t v) (hd : DataW.Trod enc P w base spare held t v d ps) : ∃ p n cap ts, v = .slice p n cap ∧ ThreesV w p n ts := by
  obtain ⟨p, n, cap, rfl⟩ := okWide_slice ht hval
  obtain ⟨fuel, hf⟩ := hd
  rcases open_slice ht hf with ⟨hcs, _⟩ | ⟨a, l, c, m, q, D, Pl, hcs, hb, hl, hm, hmm, _, hx⟩
  · simp [Value.cells] at hcs
    obtain ⟨rfl, rfl, rfl⟩ := hcs
    exact ⟨none, 0, 0, [], rfl, rfl, by omega, .inl rfl⟩
  · simp [Value.cells] at hcs
    obtain ⟨rfl, rfl, rfl⟩ := hcs
    have hml : maxLen ≤ 9223372036854775807 := by decide
    have hlm : n ≤ m := by rw [hmm]; split <;> omega
    have each : ∀ i, i < n → ∃ y : T3, w.cell? (a.add (i * 3)) = some (.int .i64 y.1) ∧ w.cell? (a.add (i * 3 + 1)) = some (.int .i64 y.2.1) ∧ w.cell? (a.add (i * 3 + 2)) = some (.int .i64 y.2.2) := by
      intro i hi
      obtain ⟨cs', h1, h2⟩ := hx i (by omega)
      rw [ce] at h1
      obtain ⟨_, hlen, hcell⟩ := World.cells?_some h1
      obtain ⟨xs, k, _, _, _, hxl, hi'⟩ := DataW.trod_array he h2
      rw [ce'] at hi'
      match cs', hlen, xs, hxl with
      | [v0, v1, v2], _, [x0, x1, x2], _ =>
        have g0 := hi' 0 (by omega); have g1 := hi' 1 (by omega); have g2 := hi' 2 (by omega)
        obtain ⟨n0, rfl, _⟩ := int_of_trod he' (by simpa using g0)
        obtain ⟨n1, rfl, _⟩ := int_of_trod he' (by simpa using g1)
        obtain ⟨n2, rfl, _⟩ := int_of_trod he' (by simpa using g2)
        have e0 := hcell 0 (by omega); have e1 := hcell 1 (by omega); have e2 := hcell 2 (by omega)
        rw [add_add] at e0 e1 e2
        exact ⟨(n0, n1, n2), by simpa using e0, by simpa using e1, by simpa using e2⟩
    obtain ⟨f, hf'⟩ := choose_lt each
    refine ⟨some a, n, cap, (List.range n).map f, rfl, by simp, by omega, ?_⟩
    by_cases h0 : n = 0
    · exact .inl h0
    · right
      obtain ⟨b, off, spot⟩ := a
      have hs : spot = none := by
        have := World.cell?_spot (hf' 0 (by omega)).1
        simpa [Addr.add] using this
      subst hs
      refine ⟨b, off, rfl, lt_of_cell (a := ⟨b, off + 0 * 3, none⟩) (by rw [← add_none]; exact (hf' 0 (by omega)).1), ?_⟩
      intro j hj
      simp only [List.length_map, List.length_range] at hj
      obtain ⟨k0, k1, k2⟩ := hf' j hj
      rw [add_none] at k0 k1 k2
      rw [show ((List.range n).map f).getD j (0, 0, 0) = f j by simp [hj]]
      exact ⟨k0, by rw [Nat.add_assoc]; exact k1, by rw [Nat.add_assoc]; exact k2⟩
end
end Go.Proofs.Ytbmeljkdemdloaa
