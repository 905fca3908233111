/- The reference of layer 9 returns what the same definitions in plain numbers say, for all ints. -/
import Derived.Test.YtpjobllfiimdkaaGreatDoorPow
namespace Go.Proofs.YtpjobllfiimdkaaGreatDoor
open Go.RowKit
set_option linter.unusedVariables false

/-- the loop's state: product, square and rest give the power -/
def PwState (a n : Nat) (c s r : Int) : Prop :=
  0 ≤ c ∧ c < 2147483579 ∧ 0 ≤ s ∧ s < 2147483579 ∧ 0 ≤ r ∧ (c.toNat * s.toNat ^ r.toNat) % 2147483579 = powN a n

theorem pw_end {a n : Nat} {c s : Int} (h : PwState a n c s 0) : c = (powN a n : Int) := by
  obtain ⟨h1, h2, _, _, _, h⟩ := h
  have : c.toNat = powN a n := by rw [← h]; simp; omega
  omega

theorem pw_even {a n : Nat} {c s r : Int} (h : PwState a n c s r) (hr : 0 < r) (e : r % 2 ≠ 1) : PwState a n c (s * s % 2147483579) (r / 2) := by
  obtain ⟨h1, h2, h3, h4, h5, h6⟩ := h
  refine ⟨h1, h2, Int.emod_nonneg _ (by omega), Int.emod_lt_of_pos _ (by omega), by omega, ?_⟩
  rw [← h6]
  have e2 : (s * s % 2147483579).toNat = (s.toNat * s.toNat) % 2147483579 := by
    rw [toNat_mod (Int.mul_nonneg h3 h3) (by omega), toNat_mul h3 h3]; rfl
  have e3 : (r / 2).toNat = r.toNat / 2 := by omega
  have er : r.toNat = 2 * (r.toNat / 2) := by omega
  rw [e2, e3, Nat.mul_mod, ← Nat.pow_mod, ← Nat.mul_mod]
  conv => rhs; rw [er, Nat.pow_mul, Nat.pow_two]

theorem pw_odd {a n : Nat} {c s r : Int} (h : PwState a n c s r) (hr : 0 < r) (e : r % 2 = 1) : PwState a n (c * s % 2147483579) (s * s % 2147483579) (r / 2) := by
  obtain ⟨h1, h2, h3, h4, h5, h6⟩ := h
  refine ⟨Int.emod_nonneg _ (by omega), Int.emod_lt_of_pos _ (by omega), Int.emod_nonneg _ (by omega), Int.emod_lt_of_pos _ (by omega), by omega, ?_⟩
  rw [← h6]
  have e2 : (s * s % 2147483579).toNat = (s.toNat * s.toNat) % 2147483579 := by
    rw [toNat_mod (Int.mul_nonneg h3 h3) (by omega), toNat_mul h3 h3]; rfl
  have e3 : (r / 2).toNat = r.toNat / 2 := by omega
  have er : r.toNat = 2 * (r.toNat / 2) + 1 := by omega
  rw [e2, e3, toNat_mod (Int.mul_nonneg h1 h3) (by omega), toNat_mul h1 h3, Nat.mul_mod, ← Nat.pow_mod, ← Nat.mul_mod]
  conv => rhs; rw [er, Nat.pow_succ, Nat.pow_mul, Nat.pow_two]
  show (c.toNat * s.toNat % 2147483579 * (s.toNat * s.toNat) ^ (r.toNat / 2)) % 2147483579 = _
  rw [Nat.mod_mul_mod]
  congr 1; ac_rfl

theorem pw_start {a n : Int} (a0 : 0 ≤ a) (a1 : a < 2147483579) (n0 : 0 ≤ n) : PwState a.toNat n.toNat 1 a n := by
  refine ⟨by omega, by omega, a0, a1, n0, ?_⟩
  simp [powN]

set_option maxHeartbeats 400000 in
theorem rpower_any (a n : Int) (w : World) (a0 : 0 ≤ a) (a1 : a < 2147483579) (n0 : 0 ≤ n) (n1 : n ≤ 1073741789) :
    Calls Tryz.prog 81 #[.int .i64 a, .int .i64 n] w fun e w' => e = .returned (.int .i64 (powN a.toNat n.toNat : Int)) ∧ w = w' := by
  have HS := Lib.hid (pw_start a0 a1 n0)
  go_enter Tryz.func81, Tryz.ntmps81
  go_wp2
  go_loop [0, 1, 5] (fun s r c => ∃ s' r' c' : Int, s = .int .i64 s' ∧ r = .int .i64 r' ∧ c = .int .i64 c' ∧ r' ≤ 1073741789 ∧ Hid (PwState a.toNat n.toNat c' s' r')) (fun _ r _ => (intOf r).toNat)
  case atStart => exact ⟨a, n, 1, rfl, rfl, rfl, n1, HS⟩
  case round =>
    obtain ⟨s, r, c, rfl, rfl, rfl, hr1, hst⟩ := hrel
    obtain ⟨c0, c1, s0, s1, r0, _⟩ := hst.out
    by_cases hr : 0 < r
    · obtain ⟨m0, m1⟩ := mul_bound s0 s1 s0 s1
      obtain ⟨m2, m3⟩ := mul_bound c0 c1 s0 s1
      by_cases e : r % 2 = 1
      · have hn := Lib.hid (pw_odd hst.out hr e)
        have eB : (r % 2 == 1) = true := by simp [e]
        clear e
        go_wp2
        go_round
        case rel => exact ⟨_, _, _, rfl, rfl, rfl, by omega, hn⟩
        case measure => simp [intOf]; omega
      · have hn := Lib.hid (pw_even hst.out hr e)
        have eB : (r % 2 == 1) = false := by simp [e]
        clear e
        go_wp2
        go_round
        case rel => exact ⟨_, _, _, rfl, rfl, rfl, by omega, hn⟩
        case measure => simp [intOf]; omega
    · obtain rfl : r = 0 := by omega
      have hf := Lib.hid (pw_end hst.out)
      go_wp2
      go_ret
      exact ⟨ret_int hf.out, rfl⟩

theorem elB_powN {x : Int} (h1 : 1 ≤ x) (h2 : x < 2147483579) : ((powN x.toNat 1073741789 : Int) == 1) = elB x := by
  have hP : M.P = 2147483579 := rfl
  have hQ : M.Q = 1073741789 := rfl
  unfold elB powN
  rw [Bool.eq_iff_iff, beq_iff_eq, M.isEl_iff]
  constructor
  · intro h; exact ⟨by omega, by omega, by rw [hP, hQ]; omega⟩
  · intro h; have := h.2.2; rw [hP, hQ] at this; omega

set_option maxHeartbeats 400000 in
theorem rvalid_any (x : Int) (w : World) :
    Calls Tryz.prog 63 #[.int .i64 x] w fun e w' => e = .returned (.bool (elB x)) ∧ w = w' := by
  by_cases h1 : 1 ≤ x
  · by_cases h2 : x < 2147483579
    · have H := Lib.hid (elB_powN h1 h2)
      go_enter Tryz.func63, Tryz.ntmps63
      go_wp2_with (go_at_call 81; refine (rpower_any _ _ _ (by omega) h2 (by omega) (by omega)).mono ?_; rintro e w' ⟨rfl, rfl⟩)
      go_ret
      exact ⟨ret_bool H.out, rfl⟩
    · have H := Lib.hid (elB_high (x := x) (by omega))
      go_enter Tryz.func63, Tryz.ntmps63
      go_wp2
      go_ret
      exact ⟨ret_bool H.out.symm, rfl⟩
  · have H := Lib.hid (elB_low (x := x) (by omega))
    go_enter Tryz.func63, Tryz.ntmps63
    go_wp2
    go_ret
    exact ⟨ret_bool H.out.symm, rfl⟩

set_option maxHeartbeats 400000 in
theorem rMul_any (a b : Int) (w : World) :
    Calls Tryz.prog 60 #[.int .i64 a, .int .i64 b] w fun e w' => e = .returned (.tuple #[.int .i64 (mulZ a b), .int .i64 (mulE a b)]) ∧ w = w' := by
  cases ha : elB a with
  | false =>
    have HA := Lib.hid ha
    have e1 := Lib.hid (show mulZ a b = 0 by unfold mulZ; rw [ha]; rfl)
    have e2 := Lib.hid (show mulE a b = 90 by unfold mulE; rw [ha]; rfl)
    go_enter Tryz.func60, Tryz.ntmps60
    go_wp2_with (go_at_call 63; refine (rvalid_any _ _).mono ?_; rintro e w' ⟨rfl, rfl⟩)
    go_ret2
    exact ⟨ret_two e1.out.symm e2.out.symm, rfl⟩
  | true =>
    have HA := Lib.hid ha
    obtain ⟨a1, a2⟩ := elB_iff ha
    cases hb : elB b with
    | false =>
      have HB := Lib.hid hb
      have e1 := Lib.hid (show mulZ a b = 0 by unfold mulZ; rw [ha, hb]; rfl)
      have e2 := Lib.hid (show mulE a b = 90 by unfold mulE; rw [ha, hb]; rfl)
      go_enter Tryz.func60, Tryz.ntmps60
      go_wp2_with (go_at_call 63; refine (rvalid_any _ _).mono ?_; rintro e w' ⟨rfl, rfl⟩)
      go_ret2
      exact ⟨ret_two e1.out.symm e2.out.symm, rfl⟩
    | true =>
      have HB := Lib.hid hb
      obtain ⟨b1, b2⟩ := elB_iff hb
      obtain ⟨m0, m1⟩ := mul_bound (a := a) (b := b) (by omega) a2 (by omega) b2
      have e1 := Lib.hid (show mulZ a b = a * b % 2147483579 by unfold mulZ; rw [ha, hb]; rfl)
      have e2 := Lib.hid (show mulE a b = 0 by unfold mulE; rw [ha, hb]; rfl)
      go_enter Tryz.func60, Tryz.ntmps60
      go_wp2_with (go_at_call 63; refine (rvalid_any _ _).mono ?_; rintro e w' ⟨rfl, rfl⟩)
      go_ret2
      exact ⟨ret_two e1.out.symm e2.out.symm, rfl⟩

set_option maxHeartbeats 400000 in
theorem rexp_any (n : Int) (w : World) :
    Calls Tryz.prog 82 #[.int .i64 n] w fun e w' => e = .returned (.int .i64 (n % 1073741789)) ∧ w = w' := by
  have h1 := Int.tmod_lt_of_pos n (show (0 : Int) < 1073741789 by omega)
  have h2 : -1073741789 < n.tmod 1073741789 := Int.lt_tmod_of_pos n (by omega)
  have e := exp_eq n
  by_cases h : n.tmod 1073741789 < 0
  · have H := Lib.hid (show n.tmod 1073741789 + 1073741789 = n % 1073741789 by omega)
    clear e
    go_enter Tryz.func82, Tryz.ntmps82
    go_wp2
    go_ret
    exact ⟨ret_int H.out, rfl⟩
  · have H := Lib.hid (show n.tmod 1073741789 = n % 1073741789 by omega)
    clear e
    go_enter Tryz.func82, Tryz.ntmps82
    go_wp2
    go_ret
    exact ⟨ret_int H.out, rfl⟩

set_option maxHeartbeats 400000 in
theorem rPow_any (a n : Int) (w : World) :
    Calls Tryz.prog 53 #[.int .i64 a, .int .i64 n] w fun e w' => e = .returned (.tuple #[.int .i64 (powZ a n), .int .i64 (powE a)]) ∧ w = w' := by
  have m1 := Int.emod_nonneg n (show (1073741789 : Int) ≠ 0 by omega)
  have m2 := Int.emod_lt_of_pos n (show (0 : Int) < 1073741789 by omega)
  cases ha : elB a with
  | false =>
    have HA := Lib.hid ha
    have e1 := Lib.hid (show powZ a n = 0 by unfold powZ; rw [ha]; rfl)
    have e2 := Lib.hid (show powE a = 90 by unfold powE; rw [ha]; rfl)
    go_enter Tryz.func53, Tryz.ntmps53
    go_wp2_with (go_at_call 63; refine (rvalid_any _ _).mono ?_; rintro e w' ⟨rfl, rfl⟩)
    go_ret2
    exact ⟨ret_two e1.out.symm e2.out.symm, rfl⟩
  | true =>
    have HA := Lib.hid ha
    obtain ⟨a1, a2⟩ := elB_iff ha
    have e1 := Lib.hid (show powZ a n = (powN a.toNat (n % 1073741789).toNat : Int) by unfold powZ; rw [ha]; rfl)
    have e2 := Lib.hid (show powE a = 0 by unfold powE; rw [ha]; rfl)
    go_enter Tryz.func53, Tryz.ntmps53
    go_wp2_with (first
      | (go_at_call 63; refine (rvalid_any _ _).mono ?_; rintro e w' ⟨rfl, rfl⟩)
      | (go_at_call 82; refine (rexp_any _ _).mono ?_; rintro e w' ⟨rfl, rfl⟩)
      | (go_at_call 81; refine (rpower_any _ _ _ (by omega) a2 m1 (by omega)).mono ?_; rintro e w' ⟨rfl, rfl⟩))
    go_ret2
    exact ⟨ret_two e1.out.symm e2.out.symm, rfl⟩
end Go.Proofs.YtpjobllfiimdkaaGreatDoor
