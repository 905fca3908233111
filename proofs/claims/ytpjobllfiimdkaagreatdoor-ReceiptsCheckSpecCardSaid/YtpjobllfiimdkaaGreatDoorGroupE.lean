/- group.Element. -/
import Derived.Test.YtpjobllfiimdkaaGreatDoorGroupFac
namespace Go.Proofs.YtpjobllfiimdkaaGreatDoor
open Go.RowKit
set_option linter.unusedVariables false

set_option maxHeartbeats 400000 in
theorem gElement_any (n : Int) (w : World) :
    Calls Tryz.prog 87 #[.int .i64 n] w fun e w' => e = .returned (.tuple #[.int .i64 (elmZ n), .int .i64 (elmE n)]) ∧ w = w' := by
  by_cases h1 : n < 1
  · have e1 := Lib.hid (show elmZ n = 0 by unfold elmZ; rw [if_neg (by omega)])
    have e2 := Lib.hid (show elmE n = 1 by unfold elmE; rw [if_neg (by omega)])
    go_enter Tryz.func87, Tryz.ntmps87
    go_wp2
    go_ret2
    exact ⟨ret_two e1.out.symm e2.out.symm, rfl⟩
  · by_cases h2 : 1073741789 < n
    · have e1 := Lib.hid (show elmZ n = 0 by unfold elmZ; rw [if_neg (by omega)])
      have e2 := Lib.hid (show elmE n = 1 by unfold elmE; rw [if_neg (by omega)])
      go_enter Tryz.func87, Tryz.ntmps87
      go_wp2
      go_ret2
      exact ⟨ret_two e1.out.symm e2.out.symm, rfl⟩
    · have e2 := Lib.hid (show elmE n = 0 by unfold elmE; rw [if_pos (by omega)])
      cases hv : elB n with
      | true =>
        have HV := Lib.hid hv
        have e1 := Lib.hid (show elmZ n = n by unfold elmZ; rw [if_pos (by omega), hv]; rfl)
        go_enter Tryz.func87, Tryz.ntmps87
        go_wp2_with (go_at_call 25; refine (valid_any _ _).mono ?_; rintro e w' ⟨rfl, rfl⟩)
        go_ret2
        exact ⟨ret_two e1.out.symm e2.out.symm, rfl⟩
      | false =>
        have HV := Lib.hid hv
        have e1 := Lib.hid (show elmZ n = 2147483579 - n by unfold elmZ; rw [if_pos (by omega), hv]; rfl)
        go_enter Tryz.func87, Tryz.ntmps87
        go_wp2_with (go_at_call 25; refine (valid_any _ _).mono ?_; rintro e w' ⟨rfl, rfl⟩)
        go_ret2
        exact ⟨ret_two e1.out.symm e2.out.symm, rfl⟩

end Go.Proofs.YtpjobllfiimdkaaGreatDoor
namespace Go.Proofs.YtpjobllfiimdkaaGreatDoor
open Go.RowKit
set_option linter.unusedVariables false

theorem elm_c (a x e : Int) (w : World) (h1 : elmZ a = x) (h2 : elmE a = e) :
    Calls Tryz.prog 87 #[.int .i64 a] w fun r w' => r = .returned (.tuple #[.int .i64 x, .int .i64 e]) ∧ w = w' := by
  rw [← h1, ← h2]; exact gElement_any a w
end Go.Proofs.YtpjobllfiimdkaaGreatDoor
