/- The reference of layer 11: what is calculated modulo Q. -/
import Derived.Test.YthhlpkppcbillaaDoorSigSign
import Derived.Test.YthhlpkppcbillaaDoorQInv
namespace Go.Proofs.YthhlpkppcbillaaDoor
open Go.RowKit
set_option linter.unusedVariables false

set_option maxHeartbeats 400000 in
theorem rmod_any (n : Int) (w : World) : Calls Tryd.prog 21 #[.int .i64 n] w fun e w' => e = .returned (.int .i64 (modQ n)) ∧ w = w' := by
  have h1 := Int.tmod_lt_of_pos n (show (0 : Int) < 1073741789 by omega)
  have h2 : -1073741789 < n.tmod 1073741789 := Int.lt_tmod_of_pos n (by omega)
  have h3 : modQ n = if n.tmod 1073741789 < 0 then n.tmod 1073741789 + 1073741789 else n.tmod 1073741789 := by
    unfold modQ
    rw [← exp_eq n]
    split <;> omega
  by_cases h : n.tmod 1073741789 < 0
  · rw [if_pos h] at h3
    have H3 := Lib.hid h3
    clear h3
    go_enter Tryd.func21, Tryd.ntmps21
    go_wp2
    go_ret
    exact ⟨ret_int H3.out.symm, rfl⟩
  · rw [if_neg h] at h3
    have H3 := Lib.hid h3
    clear h3
    go_enter Tryd.func21, Tryd.ntmps21
    go_wp2
    go_ret
    exact ⟨ret_int H3.out.symm, rfl⟩
theorem modQ_rng (n : Int) : 0 ≤ modQ n ∧ modQ n < 1073741789 := by unfold modQ; omega
def tmsQ (a b : Int) : Int := modQ a * modQ b % 1073741789
set_option maxHeartbeats 400000 in
theorem rtimes_any (a b : Int) (w : World) : Calls Tryd.prog 41 #[.int .i64 a, .int .i64 b] w fun e w' => e = .returned (.int .i64 (tmsQ a b)) ∧ w = w' := by
  obtain ⟨a0, a1⟩ := modQ_rng a
  obtain ⟨b0, b1⟩ := modQ_rng b
  obtain ⟨m0, m1⟩ := mulQ_bound a0 a1 b0 b1
  go_enter Tryd.func41, Tryd.ntmps41
  go_wp2_with (go_at_call 21; refine (rmod_any _ _).mono ?_; rintro e w' ⟨rfl, rfl⟩)
  go_ret
  exact ⟨rfl, rfl⟩
/-- the loop's state: product, square and rest give the power -/
def PqState (a n : Nat) (c s r : Int) : Prop :=
  0 ≤ c ∧ c < 1073741789 ∧ 0 ≤ s ∧ s < 1073741789 ∧ 0 ≤ r ∧ (c.toNat * s.toNat ^ r.toNat) % 1073741789 = pwQ a n

theorem pq_end {a n : Nat} {c s : Int} (h : PqState a n c s 0) : c = (pwQ a n : Int) := by
  obtain ⟨h1, h2, _, _, _, h⟩ := h
  have : c.toNat = pwQ a n := by rw [← h]; simp; omega
  omega

theorem pq_even {a n : Nat} {c s r : Int} (h : PqState a n c s r) (hr : 0 < r) (e : r % 2 ≠ 1) : PqState a n c (s * s % 1073741789) (r / 2) := by
  obtain ⟨h1, h2, h3, h4, h5, h6⟩ := h
  refine ⟨h1, h2, Int.emod_nonneg _ (by omega), Int.emod_lt_of_pos _ (by omega), by omega, ?_⟩
  rw [← h6]
  have e2 : (s * s % 1073741789).toNat = (s.toNat * s.toNat) % 1073741789 := by
    rw [toNat_mod (Int.mul_nonneg h3 h3) (by omega), toNat_mul h3 h3]; rfl
  have e3 : (r / 2).toNat = r.toNat / 2 := by omega
  have er : r.toNat = 2 * (r.toNat / 2) := by omega
  rw [e2, e3, Nat.mul_mod, ← Nat.pow_mod, ← Nat.mul_mod]
  conv => rhs; rw [er, Nat.pow_mul, Nat.pow_two]

theorem pq_odd {a n : Nat} {c s r : Int} (h : PqState a n c s r) (hr : 0 < r) (e : r % 2 = 1) : PqState a n (c * s % 1073741789) (s * s % 1073741789) (r / 2) := by
  obtain ⟨h1, h2, h3, h4, h5, h6⟩ := h
  refine ⟨Int.emod_nonneg _ (by omega), Int.emod_lt_of_pos _ (by omega), Int.emod_nonneg _ (by omega), Int.emod_lt_of_pos _ (by omega), by omega, ?_⟩
  rw [← h6]
  have e2 : (s * s % 1073741789).toNat = (s.toNat * s.toNat) % 1073741789 := by
    rw [toNat_mod (Int.mul_nonneg h3 h3) (by omega), toNat_mul h3 h3]; rfl
  have e3 : (r / 2).toNat = r.toNat / 2 := by omega
  have er : r.toNat = 2 * (r.toNat / 2) + 1 := by omega
  rw [e2, e3, toNat_mod (Int.mul_nonneg h1 h3) (by omega), toNat_mul h1 h3, Nat.mul_mod, ← Nat.pow_mod, ← Nat.mul_mod]
  conv => rhs; rw [er, Nat.pow_succ, Nat.pow_mul, Nat.pow_two]
  show (c.toNat * s.toNat % 1073741789 * (s.toNat * s.toNat) ^ (r.toNat / 2)) % 1073741789 = _
  rw [Nat.mod_mul_mod]
  congr 1; ac_rfl

theorem pq_start {a n : Int} (a0 : 0 ≤ a) (a1 : a < 1073741789) (n0 : 0 ≤ n) : PqState a.toNat n.toNat 1 a n := by
  refine ⟨by omega, by omega, a0, a1, n0, ?_⟩
  simp [pwQ]

set_option maxHeartbeats 400000 in
theorem rpowQ_any (a n : Int) (w : World) (n0 : 0 ≤ n) (n1 : n ≤ 1073741789) :
    Calls Tryd.prog 53 #[.int .i64 a, .int .i64 n] w fun e w' => e = .returned (.int .i64 (pwQ (modQ a).toNat n.toNat : Int)) ∧ w = w' := by
  have HS := Lib.hid (pq_start (a := modQ a) (n := n) (by unfold modQ; omega) (by unfold modQ; omega) n0)
  go_enter Tryd.func53, Tryd.ntmps53
  go_wp2_with (go_at_call 21; refine (rmod_any _ _).mono ?_; rintro e w' ⟨rfl, rfl⟩)
  go_loop [0, 1, 5] (fun s r c => ∃ s' r' c' : Int, s = .int .i64 s' ∧ r = .int .i64 r' ∧ c = .int .i64 c' ∧ r' ≤ 1073741789 ∧ Hid (PqState (modQ a).toNat n.toNat c' s' r')) (fun _ r _ => (intOf r).toNat)
  case atStart => exact ⟨modQ a, n, 1, rfl, rfl, rfl, n1, HS⟩
  case round =>
    obtain ⟨s, r, c, rfl, rfl, rfl, hr1, hst⟩ := hrel
    obtain ⟨c0, c1, s0, s1, r0, _⟩ := hst.out
    by_cases hr : 0 < r
    · obtain ⟨m0, m1⟩ := mulQ_bound s0 s1 s0 s1
      obtain ⟨m2, m3⟩ := mulQ_bound c0 c1 s0 s1
      by_cases e : r % 2 = 1
      · have hn := Lib.hid (pq_odd hst.out hr e)
        have eB : (r % 2 == 1) = true := by simp [e]
        clear e
        go_wp2
        go_round
        case rel => exact ⟨_, _, _, rfl, rfl, rfl, by omega, hn⟩
        case measure => simp [intOf]; omega
      · have hn := Lib.hid (pq_even hst.out hr e)
        have eB : (r % 2 == 1) = false := by simp [e]
        clear e
        go_wp2
        go_round
        case rel => exact ⟨_, _, _, rfl, rfl, rfl, by omega, hn⟩
        case measure => simp [intOf]; omega
    · obtain rfl : r = 0 := by omega
      have hf := Lib.hid (pq_end hst.out)
      go_wp2
      go_ret
      exact ⟨ret_int hf.out, rfl⟩


theorem pwQ_lt (a n : Nat) : pwQ a n < 1073741789 := Nat.mod_lt _ (by decide)
theorem quo_eq (a b : Int) : tmsQ a (pwQ (modQ b).toNat 1073741787 : Int) = quoQ a b := by
  unfold tmsQ quoQ
  have := pwQ_lt (modQ b).toNat 1073741787
  generalize pwQ (modQ b).toNat 1073741787 = y at this ⊢
  rw [show modQ (y : Int) = y by unfold modQ; omega]
structure IsQuo (a b r : Int) : Prop where
  eq : quoQ a b = r
set_option maxHeartbeats 400000 in
theorem rquo_is (a b r : Int) (w : World) (h : Hid (IsQuo a b r)) : Calls Tryd.prog 22 #[.int .i64 a, .int .i64 b] w fun e w' => e = .returned (.int .i64 r) ∧ w = w' := by
  have hq := quo_eq a b
  rw [h.out.eq] at hq
  obtain ⟨y, hy⟩ : ∃ y : Nat, pwQ (modQ b).toNat (1073741787 : Int).toNat = y := ⟨_, rfl⟩
  have hq' : tmsQ a y = r := by rw [← hy]; exact hq
  have HY := Lib.hid hy; have HQ := Lib.hid hq'
  clear hq hq' hy
  go_enter Tryd.func22, Tryd.ntmps22
  go_wp2_with (first
    | (go_at_call 53; refine (rpowQ_any b 1073741787 _ (by omega) (by omega)).mono ?_; rintro e w' ⟨rfl, rfl⟩; rw [HY.out])
    | (go_at_call 41; refine (rtimes_any a y _).mono ?_; rintro e w' ⟨rfl, rfl⟩; rw [HQ.out]))
  go_ret
  exact ⟨rfl, rfl⟩
end Go.Proofs.YthhlpkppcbillaaDoor
