/- The reference of layer 9: Element. -/
import Derived.Deep.RegionWith
import Derived.Test.YtcedmiojmepioaaGreatDoorGroupRef
import Derived.Test.YtcedmiojmepioaaGreatDoorGroupE
namespace Go.Proofs.YtcedmiojmepioaaGreatDoor
open Go.RowKit Go.Shelf
set_option linter.unusedVariables false

set_option maxHeartbeats 400000 in
theorem relm_any (n : Int) (w : World) (hn : -9223372036854775808 ≤ n ∧ n ≤ 9223372036854775807) :
    Calls Tryz.prog 27 #[.int .i64 n] w fun e w' => e = .returned (.tuple #[.int .i64 (elmZ n), .int .i64 (elmE n)]) ∧ w = w' := by
  by_cases h1 : n < 1
  · have e1 := Lib.hid (show elmZ n = 0 by unfold elmZ; rw [if_neg (by omega)])
    have e2 := Lib.hid (show elmE n = 1 by unfold elmE; rw [if_neg (by omega)])
    go_enter Tryz.func27, Tryz.ntmps27
    go_wp2_with fail
    go_ret2
    exact ⟨ret_two e1.out.symm e2.out.symm, rfl⟩
  · by_cases h2 : n > 1073741789
    · have e1 := Lib.hid (show elmZ n = 0 by unfold elmZ; rw [if_neg (by omega)])
      have e2 := Lib.hid (show elmE n = 1 by unfold elmE; rw [if_neg (by omega)])
      go_enter Tryz.func27, Tryz.ntmps27
      go_wp2_with fail
      go_ret2
      exact ⟨ret_two e1.out.symm e2.out.symm, rfl⟩
    · have e2 := Lib.hid (show elmE n = 0 by unfold elmE; rw [if_pos (by omega)])
      cases hv : elB n with
      | true =>
        have e1 := Lib.hid (show elmZ n = n by unfold elmZ; rw [if_pos (by omega), hv]; rfl)
        have HV := Lib.hid hv; clear hv
        go_enter Tryz.func27, Tryz.ntmps27
        go_wp2_with fail
        refine (rvalid_any _ _).mono ?_; rintro e w' ⟨rfl, rfl⟩; rw [HV.out]
        go_wp2_with fail
        go_ret2
        exact ⟨ret_two e1.out.symm e2.out.symm, rfl⟩
      | false =>
        have e1 := Lib.hid (show elmZ n = 2147483579 - n by unfold elmZ; rw [if_pos (by omega), hv]; rfl)
        have HV := Lib.hid hv; clear hv
        go_enter Tryz.func27, Tryz.ntmps27
        go_wp2_with fail
        refine (rvalid_any _ _).mono ?_; rintro e w' ⟨rfl, rfl⟩; rw [HV.out]
        go_wp2_with fail
        go_ret2
        exact ⟨ret_two e1.out.symm e2.out.symm, rfl⟩

end Go.Proofs.YtcedmiojmepioaaGreatDoor
