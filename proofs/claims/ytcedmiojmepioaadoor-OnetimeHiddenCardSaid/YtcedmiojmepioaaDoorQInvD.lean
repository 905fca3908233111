/- Powers and inverses modulo Q. -/
import Derived.Test.YtcedmiojmepioaaDoorGroupRfD
namespace Go.Proofs.YtcedmiojmepioaaDoor
open Go.RowKit
set_option linter.unusedVariables false

theorem fermat {h : Nat} (hh : 1 ≤ h) (hp : ∀ k, 1 ≤ k → k < 2 * h + 1 → Nat.Coprime k (2 * h + 1)) {x : Nat} (h1 : Nat.Coprime x (2 * h + 1)) : (x ^ (2 * h)) % (2 * h + 1) = 1 := by
  have hg := M.gauss hh hp h1
  have e : x ^ (2 * h) = x ^ h * x ^ h := by rw [Nat.mul_comm, Nat.pow_mul, Nat.pow_two]
  rw [e, Nat.mul_mod, hg]
  split
  · rw [Nat.mod_eq_of_lt (by omega)]
  · exact M.neg_sq hh

theorem inv_mul {h x : Nat} (hh : 1 ≤ h) (hp : ∀ k, 1 ≤ k → k < 2 * h + 1 → Nat.Coprime k (2 * h + 1)) (h1 : 1 ≤ x) (h2 : x < 2 * h + 1) : (x ^ (2 * h - 1) % (2 * h + 1) * x) % (2 * h + 1) = 1 := by
  have hf := fermat hh hp (hp x h1 h2)
  have e : x ^ (2 * h) = x ^ (2 * h - 1) * x := by rw [← Nat.pow_succ]; congr 1; omega
  rw [Nat.mul_mod, Nat.mod_mod, ← Nat.mul_mod, ← e, hf]

def powM (q a n : Nat) : Nat := a ^ n % q
def powQ (a n : Nat) : Nat := powM 1073741789 a n
def QwState (a n : Nat) (c s r : Int) : Prop :=
  0 ≤ c ∧ c < 1073741789 ∧ 0 ≤ s ∧ s < 1073741789 ∧ 0 ≤ r ∧ (c.toNat * s.toNat ^ r.toNat) % 1073741789 = powQ a n

theorem qw_end {a n : Nat} {c s : Int} (h : QwState a n c s 0) : c = (powQ a n : Int) := by
  obtain ⟨h1, h2, _, _, _, h⟩ := h
  have : c.toNat = powQ a n := by rw [← h]; simp; omega
  omega

theorem qw_even {a n : Nat} {c s r : Int} (h : QwState a n c s r) (hr : 0 < r) (e : r % 2 ≠ 1) : QwState a n c (s * s % 1073741789) (r / 2) := by
  obtain ⟨h1, h2, h3, h4, h5, h6⟩ := h
  refine ⟨h1, h2, Int.emod_nonneg _ (by omega), Int.emod_lt_of_pos _ (by omega), by omega, ?_⟩
  rw [← h6]
  have e2 : (s * s % 1073741789).toNat = (s.toNat * s.toNat) % 1073741789 := by
    rw [toNat_mod (Int.mul_nonneg h3 h3) (by omega), toNat_mul h3 h3]; rfl
  have e3 : (r / 2).toNat = r.toNat / 2 := by omega
  have er : r.toNat = 2 * (r.toNat / 2) := by omega
  rw [e2, e3, Nat.mul_mod, ← Nat.pow_mod, ← Nat.mul_mod]
  conv => rhs; rw [er, Nat.pow_mul, Nat.pow_two]

theorem qw_odd {a n : Nat} {c s r : Int} (h : QwState a n c s r) (hr : 0 < r) (e : r % 2 = 1) : QwState a n (c * s % 1073741789) (s * s % 1073741789) (r / 2) := by
  obtain ⟨h1, h2, h3, h4, h5, h6⟩ := h
  refine ⟨Int.emod_nonneg _ (by omega), Int.emod_lt_of_pos _ (by omega), Int.emod_nonneg _ (by omega), Int.emod_lt_of_pos _ (by omega), by omega, ?_⟩
  rw [← h6]
  have e2 : (s * s % 1073741789).toNat = (s.toNat * s.toNat) % 1073741789 := by
    rw [toNat_mod (Int.mul_nonneg h3 h3) (by omega), toNat_mul h3 h3]; rfl
  have e3 : (r / 2).toNat = r.toNat / 2 := by omega
  have er : r.toNat = 2 * (r.toNat / 2) + 1 := by omega
  rw [e2, e3, toNat_mod (Int.mul_nonneg h1 h3) (by omega), toNat_mul h1 h3, Nat.mul_mod, ← Nat.pow_mod, ← Nat.mul_mod]
  conv => rhs; rw [er, Nat.pow_succ, Nat.pow_mul, Nat.pow_two]
  show (c.toNat * s.toNat % 1073741789 * (s.toNat * s.toNat) ^ (r.toNat / 2)) % 1073741789 = _
  rw [Nat.mod_mul_mod]
  congr 1; ac_rfl

theorem qw_start {a n : Int} (a0 : 0 ≤ a) (a1 : a < 1073741789) (n0 : 0 ≤ n) : QwState a.toNat n.toNat 1 a n := by
  refine ⟨by omega, by omega, a0, a1, n0, ?_⟩
  simp [powQ, powM]

def invZ (r : Int) : Int := (powQ (r % 1073741789).toNat (1073741787 : Int).toNat : Int)
theorem invZ_eq (r : Int) : invZ r = (powM 1073741789 (r % 1073741789).toNat 1073741787 : Int) := rfl

theorem inv_gen {h : Nat} {q : Int} (hh : 1 ≤ h) (hq : q = (2 * h + 1 : Nat)) (hp : ∀ k, 1 ≤ k → k < 2 * h + 1 → Nat.Coprime k (2 * h + 1)) {r : Int} (hr : r % q ≠ 0) :
    ((powM (2 * h + 1) (r % q).toNat (2 * h - 1) : Int) * r) % q = 1 := by
  have hm := Int.emod_nonneg r (b := q) (by omega)
  have hl := Int.emod_lt_of_pos r (b := q) (by omega)
  obtain ⟨k, hk⟩ : ∃ k : Nat, r % q = k := ⟨(r % q).toNat, by omega⟩
  have hx := inv_mul (x := k) hh hp (by omega) (by omega)
  rw [hk, Int.toNat_natCast]
  unfold powM
  generalize k ^ (2 * h - 1) % (2 * h + 1) = u at hx ⊢
  rw [Int.mul_emod, hk, ← hk, ← Int.emod_emod (a := r), ← Int.mul_emod, hk, hq, ← Int.natCast_mul, ← Int.natCast_emod, hx]
  rfl

theorem inv_ok {r : Int} (h : r % 1073741789 ≠ 0) : (invZ r * r) % 1073741789 = 1 := by
  rw [invZ_eq]
  exact inv_gen (h := 536870894) (by omega) (by omega) (fun k h1 h2 => M.coQ h1 h2) h

theorem mulQ_bound {a b : Int} (a0 : 0 ≤ a) (a1 : a < 1073741789) (b0 : 0 ≤ b) (b1 : b < 1073741789) : 0 ≤ a * b ∧ a * b ≤ 4611686018427387904 := mul_bound a0 (by omega) b0 (by omega)

end Go.Proofs.YtcedmiojmepioaaDoor
