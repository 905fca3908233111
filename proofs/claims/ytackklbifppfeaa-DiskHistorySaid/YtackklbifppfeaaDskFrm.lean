/- Arguments of the laws. -/
import Derived.Test.YtackklbifppfeaaDskX
import Derived.Test.YtackklbifppfeaaLawKit
namespace Go.Proofs.Ytackklbifppfeaa
open Go.ChangeShapes Go.WideShapes Go.ChangeAt Go.RowKit Go.Deep Go.Joins
set_option linter.unusedVariables false
section
variable {H : Type} {enc : TypeId × Value → H} {w : World} {base : Nat} {held : Bool}
theorem open_dk {r : Reach} {b0 : Nat} {v : Value} {d : DataW H} {ps : List MemPlace}
    (hv : Value.okWide Try.prog w r b0 25 v) (hd : DataW.Trod enc Try.prog w base (fun _ => true) held 25 v d ps) : ∃ k : Dk, v = .agg k.c ∧ DkOk w k := by
  obtain ⟨p, ns, cs, pp, np, cp, left, st, rs, ws, rfl, h1, ⟨h2, h3, h4⟩, h5, h6, h7⟩ := open_dsk hv hd
  exact ⟨⟨p, ns, cs, pp, np, cp, left, st, rs, ws⟩, rfl, h1, ⟨h5, h6, h7⟩, h2, h3, h4⟩
theorem open_row {r : Reach} {b0 : Nat} {v : Value} {d : DataW H} {ps : List MemPlace}
    (hv : Value.okWide Try.prog w r b0 35 v) (hd : DataW.Trod enc Try.prog w base (fun _ => true) held 35 v d ps) : ∃ k : Rw, v = k.v ∧ RwOk w k := by
  obtain ⟨a, n, cap, rfl⟩ := okWide_slice Try.underlying35 hv
  obtain ⟨fuel, hf⟩ := hd
  exact row_of_trod Try.underlying35 Try.underlying5 (by kernel_rfl) hf
end
end Go.Proofs.Ytackklbifppfeaa
