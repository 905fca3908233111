/- What the laws of tariffs share. -/
import Derived.Test.YticaeecfhfjjeaaTarSane
import Derived.Test.YticaeecfhfjjeaaTarArg
namespace Go.Proofs.Yticaeecfhfjjeaa
open Go.RowKit
set_option linter.unusedVariables false
def fewB (nb nl nt : Nat) : Bool := decide (nb ≤ 40 ∧ nl ≤ 40 ∧ nt ≤ 40)
theorem few_any (pb : Option Addr) (nb cb : Nat) (pl : Option Addr) (nl cl : Nat) (pt : Option Addr) (nt ct : Nat) (w : World) :
    Calls Try.prog 9 #[tarV pb nb cb pl nl cl pt nt ct] w fun e w' => e = .returned (.bool (fewB nb nl nt)) ∧ Below w.heap.size w w' := by
  have h1 := Lib.hid (bel_alloc1 w (.cells #[.slice pb nb cb, .slice pl nl cl, .slice pt nt ct] 25))
  by_cases a : nb ≤ 40
  · by_cases b : nl ≤ 40
    · by_cases c : nt ≤ 40
      · have H := Lib.hid (show fewB nb nl nt = true by unfold fewB; simp; omega)
        go_enter Try.func9, Try.ntmps9
        go_wp2_with fail
        go_ret
        exact ⟨ret_bool (by rw [H.out]; simp; omega), h1.out⟩
      · have H := Lib.hid (show fewB nb nl nt = false by unfold fewB; simp; omega)
        go_enter Try.func9, Try.ntmps9
        go_wp2_with fail
        go_ret
        exact ⟨ret_bool (by rw [H.out]; simp; omega), h1.out⟩
    · have H := Lib.hid (show fewB nb nl nt = false by unfold fewB; simp; omega)
      go_enter Try.func9, Try.ntmps9
      go_wp2_with fail
      go_ret
      exact ⟨ret_bool H.out.symm, h1.out⟩
  · have H := Lib.hid (show fewB nb nl nt = false by unfold fewB; simp; omega)
    go_enter Try.func9, Try.ntmps9
    go_wp2_with fail
    go_ret
    exact ⟨ret_bool H.out.symm, h1.out⟩
end Go.Proofs.Yticaeecfhfjjeaa
