/- How a signature opens; the card's base. -/
import Derived.Test.YthhlpkppcbillaaGreatDoorSigVer
import Derived.Test.YthhlpkppcbillaaGreatDoorDigCard
import Derived.Test.YthhlpkppcbillaaGreatDoorDigCard2
import Derived.Lib.SmallJoins
import Derived.Deep.Fields
import Derived.Deep.SlicePairs
namespace Go.Proofs.YthhlpkppcbillaaGreatDoor
open Go.ChangeShapes Go.WideShapes Go.ChangeAt Go.RowKit Go.WideElems Go.Deep Go.Joins
set_option linter.unusedVariables false
section
variable {H : Type} {enc : TypeId × Value → H} {w : World} {base : Nat} {spare : Nat → Bool} {held : Bool}
set_option maxRecDepth 100000 in
theorem open_sig {r : Reach} {b0 : Nat} {v : Value} {d : DataW H} {ps : List MemPlace}
    (hv : Value.okWide Tryz.prog w r b0 31 v) (hd : DataW.Trod enc Tryz.prog w base spare held 31 v d ps) :
    ∃ e s : Int, v = .agg #[.int .i64 e, .int .i64 s] ∧ (Lit.int .i64 e).wf = true ∧ (Lit.int .i64 s).wf = true := by
  obtain ⟨f0, f1, hF, t0, t1, hone⟩ : ∃ f0 f1 : Field, Tryz.prog.underlying 31 = some (.struct #[f0, f1]) ∧ f0.type = 3 ∧ f1.type = 3 ∧ oneCellFields Tryz.prog #[f0, f1] = true := ⟨_, _, Tryz.underlying31, rfl, rfl, by kernel_rfl⟩
  obtain ⟨v0, v1, y0, y1, n, rfl, _, _, a0, a1⟩ := open_agg2 hF hone (by kernel_rfl) hv hd
  rw [t0] at a0; rw [t1] at a1
  have hint : Tryz.prog.underlying 3 = some (.int .i64) := Tryz.underlying3
  obtain ⟨n0, q0, _, z0⟩ := DataW.trod_int hint a0
  obtain ⟨n1, q1, _, z1⟩ := DataW.trod_int hint a1
  simp at q0 q1
  subst q0 q1
  exact ⟨n0, n1, rfl, z0, z1⟩
end
end Go.Proofs.YthhlpkppcbillaaGreatDoor
