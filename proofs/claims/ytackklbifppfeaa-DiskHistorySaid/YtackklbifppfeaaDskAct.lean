/- A script of writes and syncs. -/
import Derived.Test.YtackklbifppfeaaDskFrm
namespace Go.Proofs.Ytackklbifppfeaa
open Go.ChangeShapes Go.WideShapes Go.ChangeAt Go.RowKit Go.Deep Go.Joins
set_option linter.unusedVariables false
set_option linter.unusedSimpArgs false

structure Ac where
  sy : Bool
  pos : Int
  byt : Int
def ac0 : Ac := ⟨false, 0, 0⟩
def AcOk (x : Ac) : Prop := (0 ≤ x.pos ∧ x.pos ≤ 255) ∧ 0 ≤ x.byt ∧ x.byt ≤ 255
def ActsAt (w : World) (b off : Nat) (qs : List Ac) : Prop := ∀ j, j < qs.length → w.cell? ⟨b, off + j * 3, none⟩ = some (.bool (qs.getD j ac0).sy) ∧ w.cell? ⟨b, off + j * 3 + 1, none⟩ = some (.int .u8 (qs.getD j ac0).pos) ∧ w.cell? ⟨b, off + j * 3 + 2, none⟩ = some (.int .u8 (qs.getD j ac0).byt)
def ActsV (w : World) (p : Option Addr) (n : Nat) (qs : List Ac) : Prop := n = qs.length ∧ n ≤ 9223372036854775807 ∧ (∀ x ∈ qs, AcOk x) ∧ (n = 0 ∨ ∃ b off, p = some ⟨b, off, none⟩ ∧ b < w.heap.size ∧ ActsAt w b off qs)
theorem ActsV.below {w w' : World} {p : Option Addr} {n : Nat} {qs : List Ac} (h : ActsV w p n qs) (k : Below w.heap.size w w') : ActsV w' p n qs := by
  obtain ⟨h1, h2, h4, h3⟩ := h
  refine ⟨h1, h2, h4, ?_⟩
  rcases h3 with h3 | ⟨b, off, rfl, hb, hc⟩
  · exact .inl h3
  · exact .inr ⟨b, off, rfl, Nat.lt_of_lt_of_le hb k.size, fun j hj => ⟨(k.cell (p := ⟨b, off + j * 3, none⟩) hb).trans (hc j hj).1, (k.cell (p := ⟨b, off + j * 3 + 1, none⟩) hb).trans (hc j hj).2.1, (k.cell (p := ⟨b, off + j * 3 + 2, none⟩) hb).trans (hc j hj).2.2⟩⟩
theorem ActsV.at {w : World} {p : Option Addr} {n : Nat} {qs : List Ac} (h : ActsV w p n qs) {k : Nat} (hk : k < n) : ∃ b off, p = some ⟨b, off, none⟩ ∧ b < w.heap.size ∧ w.cell? ⟨b, off + k * 3, none⟩ = some (.bool (qs.getD k ac0).sy) ∧ w.cell? ⟨b, off + k * 3 + 1, none⟩ = some (.int .u8 (qs.getD k ac0).pos) ∧ w.cell? ⟨b, off + k * 3 + 2, none⟩ = some (.int .u8 (qs.getD k ac0).byt) ∧ AcOk (qs.getD k ac0) := by
  obtain ⟨h1, h2, h4, h3⟩ := h
  rcases h3 with h3 | ⟨b, off, rfl, hb, hc⟩
  · omega
  · obtain ⟨c0, c1, c2⟩ := hc k (by omega)
    exact ⟨b, off, rfl, hb, c0, c1, c2, h4 _ (getD_mem (by omega))⟩
instance : Inhabited Ac := ⟨ac0⟩
section
variable {H : Type} {enc : TypeId × Value → H} {w : World} {base : Nat} {held : Bool}
theorem open_acts {r : Reach} {b0 : Nat} {v : Value} {d : DataW H} {ps : List MemPlace}
    (hv : Value.okWide Try.prog w r b0 43 v) (hd : DataW.Trod enc Try.prog w base (fun _ => true) held 43 v d ps) : ∃ p n cap qs, v = .slice p n cap ∧ ActsV w p n qs := by
  obtain ⟨g0, g1, g2, hG, s0, s1, s2, o0, o1, o2⟩ : ∃ g0 g1 g2 : Field, Try.prog.underlying 46 = some (.struct #[g0, g1, g2]) ∧ g0.type = 4 ∧ g1.type = 5 ∧ g2.type = 5 ∧ g0.offset = 0 ∧ g1.offset = 1 ∧ g2.offset = 2 := ⟨_, _, _, Try.underlying46, rfl, rfl, rfl, rfl, rfl, rfl⟩
  have ce : Try.prog.cellsOf 46 = 3 := by kernel_rfl
  have cb : Try.prog.cellsOf 4 = 1 := by kernel_rfl
  have cu : Try.prog.cellsOf 5 = 1 := by kernel_rfl
  obtain ⟨a0, n, cap, rfl⟩ := okWide_slice Try.underlying43 hv
  obtain ⟨fuel, hf⟩ := hd
  have hl := maxl
  rcases open_slice Try.underlying43 hf with ⟨hcs, _⟩ | ⟨a, len, cap', m, q, D, Pl, hcs, hb, h1, h2, hmm, _, hx⟩
  · simp [Value.cells] at hcs
    obtain ⟨rfl, rfl, rfl⟩ := hcs
    exact ⟨none, 0, 0, [], rfl, rfl, by omega, by simp, .inl rfl⟩
  · simp [Value.cells] at hcs
    obtain ⟨rfl, rfl, rfl⟩ := hcs
    simp only [if_true] at hmm
    have each : ∀ i, i < n → ∃ y : Ac, w.cell? (a.add (i * 3)) = some (.bool y.sy) ∧ w.cell? (a.add (i * 3 + 1)) = some (.int .u8 y.pos) ∧ w.cell? (a.add (i * 3 + 2)) = some (.int .u8 y.byt) ∧ AcOk y := by
      intro i hil
      obtain ⟨cs', e1, e2⟩ := hx i (by omega)
      rw [ce] at e1
      obtain ⟨_, hlen, hcell⟩ := World.cells?_some e1
      obtain ⟨xs, k, hk, hxy, _, hxl, hff⟩ := DataW.trod_struct hG e2
      match xs, hxl, cs', hlen with
      | [y0, y1, y2], _, [v0, v1, v2], _ =>
        have t0 := hff 0 g0 rfl
        have t1 := hff 1 g1 rfl
        have t2 := hff 2 g2 rfl
        simp [o0, o1, o2, s0, s1, s2, cb, cu] at t0 t1 t2
        have e0 := hcell 0 (by omega)
        have e1 := hcell 1 (by omega)
        have e2 := hcell 2 (by omega)
        rw [add_add] at e0 e1 e2
        obtain ⟨b, q0, _⟩ := DataW.trod_bool Try.underlying4 t0
        obtain ⟨n1, q1, _, z1⟩ := DataW.trod_int Try.underlying5 t1
        obtain ⟨n2, q2, _, z2⟩ := DataW.trod_int Try.underlying5 t2
        simp at q0 q1 q2
        subst q0 q1 q2
        exact ⟨⟨b, n1, n2⟩, by simpa using e0, by simpa using e1, by simpa using e2, bounds_u8 z1, bounds_u8 z2⟩
    obtain ⟨y, hy⟩ := choose_lt each
    refine ⟨some a, n, cap, (List.range n).map y, rfl, by simp, by omega, ?_, ?_⟩
    · intro r hr
      obtain ⟨i, hi', rfl⟩ := List.mem_map.1 hr
      exact (hy i (List.mem_range.1 hi')).2.2.2
    · by_cases h0 : n = 0
      · exact .inl h0
      · right
        obtain ⟨b, off, spot⟩ := a
        have hs : spot = none := by
          have := World.cell?_spot (hy 0 (by omega)).1
          simpa [Addr.add] using this
        subst hs
        refine ⟨b, off, rfl, lt_of_cell (a := ⟨b, off + 0 * 3, none⟩) (by rw [← add_noneD]; exact (hy 0 (by omega)).1), ?_⟩
        intro j hj
        simp only [List.length_map, List.length_range] at hj
        obtain ⟨k0, k1, k2, _⟩ := hy j hj
        rw [add_noneD] at k0 k1 k2
        rw [show ((List.range n).map y).getD j ac0 = y j by simp [hj]]
        exact ⟨k0, by rw [Nat.add_assoc]; exact k1, by rw [Nat.add_assoc]; exact k2⟩
end
end Go.Proofs.Ytackklbifppfeaa
