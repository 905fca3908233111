/- PLAIN NUMBERS: powers and inverses modulo a prime. No program is spoken of. -/
import Derived.Test.YtpjobllfiimdkaaGreatDoorMath
namespace Go.Proofs.YtpjobllfiimdkaaGreatDoor.M
set_option linter.unusedVariables false

theorem fermat {p x : Nat} (hp1 : 1 < p) (hp : ∀ k, 1 ≤ k → k < p → Nat.Coprime k p) (hc : Nat.Coprime x p) : x ^ (p - 1) % p = 1 := by
  have key : pr (fun k => k) (p - 1) * x ^ (p - 1) % p = pr (fun k => k) (p - 1) * 1 % p := by
    have e1 : pr (fun k => k) (p - 1) * x ^ (p - 1) = pr (fun k => k * x) (p - 1) := by rw [pr_mul, pr_const]
    have e2 : pr (fun k => (k * x) % p) (p - 1) = pr (fun k => k) (p - 1) := by
      refine pr_perm (f := fun k => (k * x) % p) (fun k => k) (fun k a b => ?_) (fun j k a b c d e => ?_)
      · have hl := Nat.mod_lt (k * x) (show 0 < p by omega)
        refine ⟨?_, by omega⟩
        rcases Nat.eq_zero_or_pos ((k * x) % p) with h0 | h0
        · have := dvd_of_mul hc (Nat.dvd_of_mod_eq_zero h0)
          have := Nat.le_of_dvd (by omega) this
          omega
        · exact h0
      · have e' : (j * x) % p = (k * x) % p := e
        rw [Nat.mul_comm j x, Nat.mul_comm k x] at e'
        have := mod_cancel hc e'
        rwa [Nat.mod_eq_of_lt (by omega), Nat.mod_eq_of_lt (by omega)] at this
    rw [e1, Nat.mul_one, ← e2]
    refine pr_mod fun k a b => ?_
    rw [Nat.mod_mod]
  have := mod_cancel (pr_coprime (n := p - 1) (fun k a b => hp k a (by omega))) key
  rwa [Nat.mod_eq_of_lt (a := 1) hp1] at this

theorem inv_prime {p q x : Nat} (hq : q + 2 = p) (hp2 : 2 < p) (hp : ∀ k, 1 ≤ k → k < p → Nat.Coprime k p) (hx : x % p ≠ 0) : (x * (x ^ q % p)) % p = 1 := by
  have hc : Nat.Coprime x p := by
    have h1 : Nat.Coprime (x % p) p := hp _ (by omega) (Nat.mod_lt _ (by omega))
    have h2 : Nat.Coprime p x := by unfold Nat.Coprime; rw [Nat.gcd_rec]; exact h1
    exact h2.symm
  have h3 : x ^ (q + 1) % p = 1 := by
    have := fermat (by omega) hp hc
    rwa [show p - 1 = q + 1 by omega] at this
  rw [Nat.mul_mod, Nat.mod_mod, ← Nat.mul_mod, Nat.mul_comm, ← Nat.pow_succ]
  exact h3
end Go.Proofs.YtpjobllfiimdkaaGreatDoor.M
namespace Go.Proofs.YtpjobllfiimdkaaGreatDoor
def modQ (n : Int) : Int := n % 1073741789
/-- a power of a number, modulo Q -/
def pwQ (a n : Nat) : Nat := a ^ n % 1073741789
def quoQ (a b : Int) : Int := modQ a * (pwQ (modQ b).toNat 1073741787 : Int) % 1073741789
theorem two_lt_Q : 2 < M.Q := by decide
theorem pwQ_inv' {x q : Nat} (hq : q + 2 = 1073741789) (hx : x % 1073741789 ≠ 0) : (x * pwQ x q) % 1073741789 = 1 := by
  unfold pwQ
  exact M.inv_prime hq two_lt_Q (fun k a b => M.coQ a b) hx
/-- what is divided, times the divisor -/
theorem quoQ_mul {a b : Int} (hb : b % 1073741789 ≠ 0) : (quoQ a b * b) % 1073741789 = a % 1073741789 := by
  have hx : (modQ b).toNat % 1073741789 ≠ 0 := by unfold modQ; omega
  have hn : ((modQ b).toNat : Int) = b % 1073741789 := by unfold modQ; omega
  unfold quoQ
  have h' := pwQ_inv' (q := 1073741787) rfl hx
  generalize pwQ (modQ b).toNat 1073741787 = y at h' ⊢
  have h3 : ((b % 1073741789) * (y : Int)) % 1073741789 = 1 := by
    rw [← hn]
    have := congrArg (fun n : Nat => (n : Int)) h'
    simpa using this
  generalize (y : Int) = z at h3 ⊢
  have h4 : b * z % 1073741789 = 1 := by rw [Int.mul_emod]; rw [Int.mul_emod, Int.emod_emod] at h3; exact h3
  rw [Int.mul_emod, Int.emod_emod, ← Int.mul_emod, Int.mul_assoc, Int.mul_comm z b, Int.mul_emod, h4]
  unfold modQ
  omega
end Go.Proofs.YtpjobllfiimdkaaGreatDoor
