/- slices.Clip of pending writes. -/
import Derived.Test.YtackklbifppfeaaDskOwn2
namespace Go.Proofs.Ytackklbifppfeaa
open Go.RowKit
set_option linter.unusedVariables false

theorem clip_any (p : Option Addr) (n c : Nat) (w : World) (h1 : n ≤ c) (h2 : c ≤ 9223372036854775807) (h3 : p = none → n = 0 ∧ c = 0) :
    Calls Try.prog 31 #[.slice p n c] w fun e w' => e = .returned (.slice p n n) ∧ w' = w := by
  cases p with
  | none =>
    obtain ⟨rfl, rfl⟩ := h3 rfl
    clear h1 h2 h3
    go_enter Try.func31, Try.ntmps31
    go_wp2_with fail
    go_ret
    exact ⟨rfl, rfl⟩
  | some a =>
    clear h3
    go_enter Try.func31, Try.ntmps31
    go_wp2_with fail
    go_ret
    exact ⟨rfl, rfl⟩
end Go.Proofs.Ytackklbifppfeaa
