/- The reference of layer 11: what is calculated modulo Q. -/
import Derived.Test.YtjdkdhpippapmaaGreatDoorSigVf
import Derived.Test.YtjdkdhpippapmaaGreatDoorQInv
namespace Go.Proofs.YtjdkdhpippapmaaGreatDoor
open Go.RowKit
set_option linter.unusedVariables false

set_option maxHeartbeats 400000 in
theorem rmod_any (n : Int) (w : World) : Calls Tryz.prog 71 #[.int .i64 n] w fun e w' => e = .returned (.int .i64 (modQ n)) ∧ w = w' := by
  have h1 := Int.tmod_lt_of_pos n (show (0 : Int) < 1073741789 by omega)
  have h2 : -1073741789 < n.tmod 1073741789 := Int.lt_tmod_of_pos n (by omega)
  have h3 : modQ n = if n.tmod 1073741789 < 0 then n.tmod 1073741789 + 1073741789 else n.tmod 1073741789 := by
    unfold modQ
    rw [← exp_eq n]
    split <;> omega
  by_cases h : n.tmod 1073741789 < 0
  · rw [if_pos h] at h3
    have H3 := Lib.hid h3
    clear h3
    go_enter Tryz.func71, Tryz.ntmps71
    go_wp2
    go_ret
    exact ⟨ret_int H3.out.symm, rfl⟩
  · rw [if_neg h] at h3
    have H3 := Lib.hid h3
    clear h3
    go_enter Tryz.func71, Tryz.ntmps71
    go_wp2
    go_ret
    exact ⟨ret_int H3.out.symm, rfl⟩
theorem modQ_rng (n : Int) : 0 ≤ modQ n ∧ modQ n < 1073741789 := by unfold modQ; omega
def tmsQ (a b : Int) : Int := modQ a * modQ b % 1073741789
set_option maxHeartbeats 400000 in
theorem rtimes_any (a b : Int) (w : World) : Calls Tryz.prog 95 #[.int .i64 a, .int .i64 b] w fun e w' => e = .returned (.int .i64 (tmsQ a b)) ∧ w = w' := by
  obtain ⟨a0, a1⟩ := modQ_rng a
  obtain ⟨b0, b1⟩ := modQ_rng b
  obtain ⟨m0, m1⟩ := mulQ_bound a0 a1 b0 b1
  go_enter Tryz.func95, Tryz.ntmps95
  go_wp2_with (go_at_call 71; refine (rmod_any _ _).mono ?_; rintro e w' ⟨rfl, rfl⟩)
  go_ret
  exact ⟨rfl, rfl⟩
end Go.Proofs.YtjdkdhpippapmaaGreatDoor
