/- How arguments that are arrays of three ints, and letters, read. -/
import Derived.Test.YtpjobllfiimdkaaDoorLawKit
import Derived.Deep.Fields
namespace Go.Proofs.YtpjobllfiimdkaaDoor
open Go.ChangeShapes Go.WideShapes Go.ChangeAt Go.RowKit
set_option linter.unusedVariables false

section
variable {H : Type} {enc : TypeId × Value → H} {P : Program} {w : World} {base : Nat} {spare : Nat → Bool} {held : Bool}

theorem int_of_trod {e : TypeId} {k : IntKind} {fuel : Nat} {v : Value} {x : DataW H × List MemPlace} (he : P.underlying e = some (.int k)) (h : DataW.trod enc P w base spare held fuel e [v] = some x) : ∃ n, v = .int k n ∧ (Lit.int k n).wf = true := by
  obtain ⟨n, h1, h2, h3⟩ := DataW.trod_int he h
  exact ⟨n, by simpa using h1, h3⟩

theorem open_arr3 {r : Reach} {b0 : Nat} {t e : TypeId} {k : IntKind} {v : Value} {d : DataW H} {ps : List MemPlace} (ht : P.underlying t = some (.array 3 e)) (he : P.underlying e = some (.int k)) (hc : P.cellsOf e = 1) (hcT : P.cellsOf t = 3)
    (hval : Value.okWide P w r b0 t v) (hd : DataW.Trod enc P w base spare held t v d ps) :
    ∃ n0 n1 n2, v = .agg #[.int k n0, .int k n1, .int k n2] ∧ (Lit.int k n0).wf = true ∧ (Lit.int k n1).wf = true ∧ (Lit.int k n2).wf = true := by
  simp only [Value.okWide, ht] at hval
  obtain ⟨cs, rfl, hsz, _⟩ := hval
  obtain ⟨fuel, hf⟩ := hd
  obtain ⟨l⟩ := cs
  match l, hsz.trans hcT with
  | [c0, c1, c2], _ =>
    obtain ⟨xs, m, _, _, _, hxl, hi⟩ := DataW.trod_array ht hf
    rw [hc] at hi
    have h0 := hi 0 (by omega); have h1 := hi 1 (by omega); have h2 := hi 2 (by omega)
    match xs, hxl with
    | [x0, x1, x2], _ =>
      obtain ⟨n0, rfl, w0⟩ := int_of_trod he (by simpa [Value.cells] using h0)
      obtain ⟨n1, rfl, w1⟩ := int_of_trod he (by simpa [Value.cells] using h1)
      obtain ⟨n2, rfl, w2⟩ := int_of_trod he (by simpa [Value.cells] using h2)
      exact ⟨n0, n1, n2, rfl, w0, w1, w2⟩

theorem two_of_trod {e : TypeId} {f0 f1 : Field} {k : IntKind} {fuel : Nat} {u v : Value} {x : DataW H × List MemPlace} (he : P.underlying e = some (.struct #[f0, f1])) (hone : Go.Deep.oneCellFields P #[f0, f1] = true)
    (h0 : P.underlying f0.type = some (.int k)) (h1 : P.underlying f1.type = some (.int k)) (h : DataW.trod enc P w base spare held fuel e [u, v] = some x) :
    ∃ a b, u = .int k a ∧ v = .int k b ∧ (Lit.int k a).wf = true ∧ (Lit.int k b).wf = true := by
  obtain ⟨ys, n', _, _, _, hyl, hf⟩ := DataW.trod_struct he h
  obtain ⟨o0, k0⟩ := Go.Deep.hone_of hone 0 f0 rfl
  obtain ⟨o1, k1⟩ := Go.Deep.hone_of hone 1 f1 rfl
  match ys, hyl with
  | [y0, y1], _ =>
    obtain ⟨a, rfl, wa⟩ := int_of_trod h0 (by simpa [Value.cells, o0, k0] using hf 0 f0 rfl)
    obtain ⟨b, rfl, wb⟩ := int_of_trod h1 (by simpa [Value.cells, o1, k1] using hf 1 f1 rfl)
    exact ⟨a, b, rfl, rfl, wa, wb⟩

theorem open_arr32 {r : Reach} {b0 : Nat} {t e : TypeId} {f0 f1 : Field} {k : IntKind} {v : Value} {d : DataW H} {ps : List MemPlace} (ht : P.underlying t = some (.array 3 e)) (he : P.underlying e = some (.struct #[f0, f1])) (hone : Go.Deep.oneCellFields P #[f0, f1] = true)
    (h0 : P.underlying f0.type = some (.int k)) (h1 : P.underlying f1.type = some (.int k)) (hc : P.cellsOf e = 2) (hcT : P.cellsOf t = 6)
    (hval : Value.okWide P w r b0 t v) (hd : DataW.Trod enc P w base spare held t v d ps) :
    ∃ n0 n1 n2 n3 n4 n5, v = .agg #[.int k n0, .int k n1, .int k n2, .int k n3, .int k n4, .int k n5] := by
  simp only [Value.okWide, ht] at hval
  obtain ⟨cs, rfl, hsz, _⟩ := hval
  obtain ⟨fuel, hf⟩ := hd
  obtain ⟨l⟩ := cs
  match l, hsz.trans hcT with
  | [c0, c1, c2, c3, c4, c5], _ =>
    obtain ⟨xs, m, _, _, _, hxl, hi⟩ := DataW.trod_array ht hf
    rw [hc] at hi
    have i0 := hi 0 (by omega); have i1 := hi 1 (by omega); have i2 := hi 2 (by omega)
    match xs, hxl with
    | [x0, x1, x2], _ =>
      obtain ⟨n0, n1, rfl, rfl, _⟩ := two_of_trod he hone h0 h1 (by simpa [Value.cells] using i0)
      obtain ⟨n2, n3, rfl, rfl, _⟩ := two_of_trod he hone h0 h1 (by simpa [Value.cells] using i1)
      obtain ⟨n4, n5, rfl, rfl, _⟩ := two_of_trod he hone h0 h1 (by simpa [Value.cells] using i2)
      exact ⟨n0, n1, n2, n3, n4, n5, rfl⟩
end
end Go.Proofs.YtpjobllfiimdkaaDoor
