/- The reference of layer 10: power, times; of layer 9: Element. -/
import Derived.Test.YtbmeljkdemdloaaElgTwice0
import Derived.Deep.RegionWith
namespace Go.Proofs.Ytbmeljkdemdloaa
open Go.RowKit Go.Shelf
set_option linter.unusedVariables false

set_option maxHeartbeats 400000 in
theorem relm_any (n : Int) (w : World) (hn : -9223372036854775808 ≤ n ∧ n ≤ 9223372036854775807) :
    Calls Try.prog 44 #[.int .i64 n] w fun e w' => e = .returned (.tuple #[.int .i64 (elmZ n), .int .i64 (elmE n)]) ∧ w = w' := by
  by_cases h1 : n < 1
  · have e1 := Lib.hid (show elmZ n = 0 by unfold elmZ; rw [if_neg (by omega)])
    have e2 := Lib.hid (show elmE n = 1 by unfold elmE; rw [if_neg (by omega)])
    go_enter Try.func44, Try.ntmps44
    go_wp2_with fail
    go_ret2
    exact ⟨ret_two e1.out.symm e2.out.symm, rfl⟩
  · by_cases h2 : n > 1073741789
    · have e1 := Lib.hid (show elmZ n = 0 by unfold elmZ; rw [if_neg (by omega)])
      have e2 := Lib.hid (show elmE n = 1 by unfold elmE; rw [if_neg (by omega)])
      go_enter Try.func44, Try.ntmps44
      go_wp2_with fail
      go_ret2
      exact ⟨ret_two e1.out.symm e2.out.symm, rfl⟩
    · have e2 := Lib.hid (show elmE n = 0 by unfold elmE; rw [if_pos (by omega)])
      cases hv : elB n with
      | true =>
        have e1 := Lib.hid (show elmZ n = n by unfold elmZ; rw [if_pos (by omega), hv]; rfl)
        have HV := Lib.hid hv; clear hv
        go_enter Try.func44, Try.ntmps44
        go_wp2_with fail
        refine (rvalid_any _ _).mono ?_; rintro e w' ⟨rfl, rfl⟩; rw [HV.out]
        go_wp2_with fail
        go_ret2
        exact ⟨ret_two e1.out.symm e2.out.symm, rfl⟩
      | false =>
        have e1 := Lib.hid (show elmZ n = 2147483579 - n by unfold elmZ; rw [if_pos (by omega), hv]; rfl)
        have HV := Lib.hid hv; clear hv
        go_enter Try.func44, Try.ntmps44
        go_wp2_with fail
        refine (rvalid_any _ _).mono ?_; rintro e w' ⟨rfl, rfl⟩; rw [HV.out]
        go_wp2_with fail
        go_ret2
        exact ⟨ret_two e1.out.symm e2.out.symm, rfl⟩

set_option maxHeartbeats 400000 in
theorem rpow10_any (a n : Int) (w : World) :
    Calls Try.prog 45 #[.int .i64 a, .int .i64 n] w fun e w' => e = .returned (.int .i64 (powZ a n)) ∧ w = w' := by
  go_enter Try.func45, Try.ntmps45
  go_wp2_with fail
  refine (rPow_any _ _ _).mono ?_; rintro e w' ⟨rfl, rfl⟩
  go_wp2_with fail
  go_ret
  exact ⟨rfl, rfl⟩

set_option maxHeartbeats 400000 in
theorem rtimes_any (a b : Int) (w : World) (ha : elB a = true) (hb : elB b = true) :
    Calls Try.prog 46 #[.int .i64 a, .int .i64 b] w fun e w' => e = .returned (.int .i64 (mulZ a b)) ∧ w = w' := by
  obtain ⟨a1, a2⟩ := elB_iff ha
  obtain ⟨b1, b2⟩ := elB_iff hb
  obtain ⟨m0, m1⟩ := mul_bound (a := a) (b := b) (by omega) a2 (by omega) b2
  have e1 := Lib.hid (mulZ_eq ha hb)
  clear ha hb
  go_enter Try.func46, Try.ntmps46
  go_wp2_with fail
  go_ret
  exact ⟨ret_int e1.out.symm, rfl⟩
end Go.Proofs.Ytbmeljkdemdloaa
