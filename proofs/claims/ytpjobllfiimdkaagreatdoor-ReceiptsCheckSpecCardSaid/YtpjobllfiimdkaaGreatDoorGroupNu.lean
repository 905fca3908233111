/- group.Number. -/
import Derived.Test.YtpjobllfiimdkaaGreatDoorGroupE
namespace Go.Proofs.YtpjobllfiimdkaaGreatDoor
open Go.RowKit
set_option linter.unusedVariables false

set_option maxHeartbeats 400000 in
theorem gNumber_any (x : Int) (w : World) :
    Calls Tryz.prog 36 #[.int .i64 x] w fun e w' => e = .returned (.tuple #[.int .i64 (numZ x), .int .i64 (numE x)]) ∧ w = w' := by
  cases hv : elB x with
  | true =>
    have HV := Lib.hid hv
    obtain ⟨h1, h2⟩ := elB_iff hv
    have e2 := Lib.hid (show numE x = 0 by unfold numE; rw [hv]; rfl)
    by_cases h3 : x ≤ 1073741789
    · have e1 := Lib.hid (show numZ x = x by unfold numZ; rw [hv, if_pos rfl, if_pos h3])
      have h4 : x ≤ 2147483579 - x := by omega
      go_enter Tryz.func36, Tryz.ntmps36
      go_wp2_with (go_at_call 25; refine (valid_any _ _).mono ?_; rintro e w' ⟨rfl, rfl⟩)
      go_ret2
      exact ⟨ret_two (by rw [e1.out]) e2.out.symm, rfl⟩
    · have e1 := Lib.hid (show numZ x = 2147483579 - x by unfold numZ; rw [hv, if_pos rfl, if_neg h3])
      have h4 : ¬ x ≤ 2147483579 - x := by omega
      go_enter Tryz.func36, Tryz.ntmps36
      go_wp2_with (go_at_call 25; refine (valid_any _ _).mono ?_; rintro e w' ⟨rfl, rfl⟩)
      go_ret2
      exact ⟨ret_two (by rw [e1.out]) e2.out.symm, rfl⟩
  | false =>
    have HV := Lib.hid hv
    have e1 := Lib.hid (show numZ x = 0 by unfold numZ; rw [hv]; rfl)
    have e2 := Lib.hid (show numE x = 90 by unfold numE; rw [hv]; rfl)
    go_enter Tryz.func36, Tryz.ntmps36
    go_wp2_with (go_at_call 25; refine (valid_any _ _).mono ?_; rintro e w' ⟨rfl, rfl⟩)
    go_ret2
    exact ⟨ret_two e1.out.symm e2.out.symm, rfl⟩
end Go.Proofs.YtpjobllfiimdkaaGreatDoor
namespace Go.Proofs.YtpjobllfiimdkaaGreatDoor
open Go.RowKit
set_option linter.unusedVariables false

theorem num_c (a x e : Int) (w : World) (h1 : numZ a = x) (h2 : numE a = e) :
    Calls Tryz.prog 36 #[.int .i64 a] w fun r w' => r = .returned (.tuple #[.int .i64 x, .int .i64 e]) ∧ w = w' := by
  rw [← h1, ← h2]; exact gNumber_any a w

end Go.Proofs.YtpjobllfiimdkaaGreatDoor
