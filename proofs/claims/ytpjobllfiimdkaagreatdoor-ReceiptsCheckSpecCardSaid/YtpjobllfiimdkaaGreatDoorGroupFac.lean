/- Plain facts on elements, products and powers of the group, and package group's functions at given values. -/
import Derived.Test.YtpjobllfiimdkaaGreatDoorGroup
import Derived.Test.YtpjobllfiimdkaaGreatDoorPow
namespace Go.Proofs.YtpjobllfiimdkaaGreatDoor
open Go.RowKit
set_option linter.unusedVariables false

theorem P_eq : M.P = 2147483579 := rfl
theorem Q_eq : M.Q = 1073741789 := rfl

theorem elB_one : elB 1 = true := by
  have h := M.isEl_iff (x := 1)
  unfold elB
  exact h.2 ⟨by decide, by decide, by rw [Nat.one_pow]; rfl⟩

/-- squares are elements -/
theorem isEl_sq {n : Nat} (h1 : 1 ≤ n) (h2 : n < M.P) : M.isEl (n * n % M.P) = true := by
  have hc : Nat.Coprime (n * n) M.P := Nat.Coprime.mul_left (M.coP h1 h2) (M.coP h1 h2)
  have hm := M.gc_mul (h := M.Q) (a := n) (b := n) (M.coP h1 h2) (M.coP h1 h2)
  unfold M.isEl
  rw [decide_eq_true_iff]
  refine ⟨?_, Nat.mod_lt _ (by decide), ?_⟩
  · rcases Nat.eq_zero_or_pos (n * n % M.P) with e | e
    · have := Nat.Coprime.eq_one_of_dvd hc.symm (Nat.dvd_of_mod_eq_zero e)
      exact absurd this (by decide)
    · exact e
  · have := M.gc_mod M.Q (n * n)
    rw [← M.PQ] at this
    rw [this]; omega

theorem elB_sq {n : Int} (h1 : 1 ≤ n) (h2 : n < 2147483579) : elB (n * n % 2147483579) = true := by
  have := isEl_sq (n := n.toNat) (by omega) (by rw [P_eq]; omega)
  unfold elB
  rw [toNat_mod (Int.mul_nonneg (by omega) (by omega)) (by omega), toNat_mul (by omega) (by omega)]
  exact this

theorem elB_4 : elB 4 = true := elB_sq (n := 2) (by omega) (by omega)
theorem elB_2 : elB 2 = false := by
  have := M.gc_two M.Q
  unfold elB M.isEl
  rw [decide_eq_false_iff_not]
  rintro ⟨_, _, h⟩
  rw [show (2 : Int).toNat = 2 from rfl, this] at h
  exact absurd h (by decide)
theorem elB_0 : elB 0 = false := elB_low (by omega)
theorem elB_P : elB 2147483579 = false := elB_high (by omega)
theorem elB_P1 : elB 2147483578 = false := by
  have := element_low (n := 1) (by omega) (by omega)
  rw [elB_one] at this; exact this
theorem elB_P2 : elB 2147483577 = true := by
  have := element_low (n := 2) (by omega) (by omega)
  rw [elB_2] at this; exact this

theorem powN_def (a n : Nat) : powN a n = a ^ n % 2147483579 := rfl

/-- an element to the power of Q is 1 -/
theorem pow_Q {a : Int} (h : elB a = true) : powN a.toNat 1073741789 = 1 := by
  have h2 := (M.isEl_iff.1 h).2.2
  show powN a.toNat M.Q = 1
  rw [powN_def]; exact h2

theorem powN_lt (a n : Nat) : powN a n < 2147483579 := Nat.mod_lt _ (by decide)

theorem pow_inv' {a x q : Nat} (hc : Nat.Coprime a 2147483579) (hq : powN a (q + 1) = 1) (hx : (a * x) % 2147483579 = 1) (h1 : x < 2147483579) : powN a q = x := by
  rw [powN_def] at hq ⊢
  have e : (a * a ^ q) % 2147483579 = (a * x) % 2147483579 := by rw [hx, ← Nat.pow_succ']; exact hq
  have := M.mod_cancel hc e
  rw [Nat.mod_eq_of_lt (a := x) h1] at this
  exact this

/-- the power to Q - 1 is the inverse -/
theorem pow_inv {a x : Int} (h : elB a = true) (h0 : 0 ≤ x) (h1 : x < 2147483579) (hx : a * x % 2147483579 = 1) : (powN a.toNat 1073741788 : Int) = x := by
  obtain ⟨a1, a2⟩ := elB_iff h
  have hq := pow_Q h
  have hc : Nat.Coprime a.toNat 2147483579 := M.coP (by omega) (by rw [P_eq]; omega)
  have hx' : (a.toNat * x.toNat) % 2147483579 = 1 := by
    rw [← toNat_mul (by omega) h0]
    have := toNat_mod (m := a * x) (x := 2147483579) (Int.mul_nonneg (by omega) h0) (by omega)
    rw [hx] at this
    exact this.symm
  have := pow_inv' (q := 1073741788) hc hq hx' (by omega)
  omega

theorem c_pow1 : powZ 4 2 = 16 := by unfold powZ; rw [elB_4]; rfl
theorem c_pow2 : powZ 4 1073741789 = 1 := by unfold powZ; rw [elB_4]; rfl
theorem c_pow3 : powZ 4 (-1) = 536870895 := by
  unfold powZ; rw [elB_4]
  exact pow_inv (a := 4) elB_4 (by omega) (by omega) (by decide)
theorem c_powE : powE 4 = 0 := by unfold powE; rw [elB_4]; rfl
theorem c_pow4 : powZ 0 1 = 0 := by unfold powZ; rw [elB_0]; rfl
theorem c_powE4 : powE 0 = 90 := by unfold powE; rw [elB_0]; rfl
theorem c_mul1 : mulZ 4 4 = 16 := by unfold mulZ; rw [elB_4]; rfl
theorem c_mulE1 : mulE 4 4 = 0 := by unfold mulE; rw [elB_4]; rfl
theorem c_mul2 : mulZ 4 2 = 0 := by unfold mulZ; rw [elB_4, elB_2]; rfl
theorem c_mulE2 : mulE 4 2 = 90 := by unfold mulE; rw [elB_4, elB_2]; rfl
theorem c_elm1 : elmZ 2 = 2147483577 := by unfold elmZ; rw [elB_2]; rfl
theorem c_num1 : numZ 2147483577 = 2 := by unfold numZ; rw [elB_P2]; rfl
theorem c_numE1 : numE 2147483577 = 0 := by unfold numE; rw [elB_P2]; rfl
theorem c_num2 : numZ 2 = 0 := by unfold numZ; rw [elB_2]; rfl
theorem c_numE2 : numE 2 = 90 := by unfold numE; rw [elB_2]; rfl

theorem pow_c (a n x e : Int) (w : World) (h1 : powZ a n = x) (h2 : powE a = e) :
    Calls Tryz.prog 39 #[.int .i64 a, .int .i64 n] w fun r w' => r = .returned (.tuple #[.int .i64 x, .int .i64 e]) ∧ Below w.heap.size w w' := by
  rw [← h1, ← h2]; exact gPow_any a n w
theorem mul_c (a b x e : Int) (w : World) (h1 : mulZ a b = x) (h2 : mulE a b = e) :
    Calls Tryz.prog 62 #[.int .i64 a, .int .i64 b] w fun r w' => r = .returned (.tuple #[.int .i64 x, .int .i64 e]) ∧ Below w.heap.size w w' := by
  rw [← h1, ← h2]; exact gMul_any a b w
theorem val_c (a : Int) (v : Bool) (w : World) (h1 : elB a = v) :
    Calls Tryz.prog 25 #[.int .i64 a] w fun r w' => r = .returned (.bool v) ∧ w = w' := by
  rw [← h1]; exact valid_any a w

theorem mulE_zero {a b : Int} (h : mulE a b ≠ 0) : mulZ a b = 0 := by
  unfold mulE mulZ at *; split <;> simp_all

theorem mulZ_one {a : Int} (h : elB a = true) : mulZ 1 a = a := by
  obtain ⟨h1, h2⟩ := elB_iff h
  unfold mulZ; rw [elB_one, h]; show 1 * a % 2147483579 = a; omega
theorem mulE_one {a : Int} (h : elB a = true) : mulE 1 a = 0 := by unfold mulE; rw [elB_one, h]; rfl
theorem mulZ_el {a b : Int} (ha : elB a = true) (hb : elB b = true) : elB (mulZ a b) = true := by
  obtain ⟨a1, _⟩ := elB_iff ha
  obtain ⟨b1, _⟩ := elB_iff hb
  have := M.isEl_mul ha hb
  unfold mulZ; rw [ha, hb]
  show elB (a * b % 2147483579) = true
  unfold elB
  rw [toNat_mod (Int.mul_nonneg (by omega) (by omega)) (by omega), toNat_mul (by omega) (by omega)]
  exact this
theorem mulE_el {a b : Int} (ha : elB a = true) (hb : elB b = true) : mulE a b = 0 := by unfold mulE; rw [ha, hb]; rfl

theorem mulZ_eq {a b : Int} (ha : elB a = true) (hb : elB b = true) : mulZ a b = a * b % 2147483579 := by unfold mulZ; rw [ha, hb]; rfl
theorem mulZ_comm {a b : Int} (ha : elB a = true) (hb : elB b = true) : mulZ a b = mulZ b a := by
  rw [mulZ_eq ha hb, mulZ_eq hb ha, Int.mul_comm]
theorem mulZ_assoc {a b c : Int} (ha : elB a = true) (hb : elB b = true) (hc : elB c = true) : mulZ (mulZ a b) c = mulZ a (mulZ b c) := by
  rw [mulZ_eq (mulZ_el ha hb) hc, mulZ_eq ha (mulZ_el hb hc), mulZ_eq ha hb, mulZ_eq hb hc, Int.mul_emod (a * b % 2147483579) c, Int.emod_emod, ← Int.mul_emod, Int.mul_emod a (b * c % 2147483579), Int.emod_emod, ← Int.mul_emod, Int.mul_assoc]
theorem mulZ_one_r {a : Int} (ha : elB a = true) : mulZ a 1 = a := by rw [mulZ_comm ha elB_one, mulZ_one ha]

/-- powers of elements are elements -/
theorem powN_el {a : Int} (ha : elB a = true) (n : Nat) : elB (powN a.toNat n : Int) = true := by
  induction n with
  | zero => exact elB_one
  | succ n ih =>
    have h := mulZ_el ih ha
    rw [mulZ_eq ih ha] at h
    have e : (powN a.toNat (n + 1) : Int) = (powN a.toNat n : Int) * a % 2147483579 := by
      obtain ⟨a1, _⟩ := elB_iff ha
      have : powN a.toNat (n + 1) = (powN a.toNat n * a.toNat) % 2147483579 := by
        rw [powN_def, powN_def, Nat.pow_succ, Nat.mod_mul_mod]
      rw [this, Int.natCast_emod, Int.natCast_mul, Int.toNat_of_nonneg (by omega)]; rfl
    rw [e]; exact h
theorem powZ_eq {a : Int} (ha : elB a = true) (n : Int) : powZ a n = (powN a.toNat (n % 1073741789).toNat : Int) := by unfold powZ; rw [ha]; rfl
theorem powZ_el {a : Int} (ha : elB a = true) (n : Int) : elB (powZ a n) = true := by rw [powZ_eq ha]; exact powN_el ha _

theorem powN_add (a m n : Nat) : powN a (m + n) = (powN a m * powN a n) % 2147483579 := by
  rw [powN_def, powN_def, powN_def, Nat.pow_add, Nat.mul_mod]
theorem powN_mulr (a m n : Nat) : powN (powN a m) n = powN a (m * n) := by
  rw [powN_def, powN_def, powN_def, ← Nat.pow_mod, Nat.pow_mul]
theorem powN_mod (a n : Nat) : powN (a % 2147483579) n = powN a n := by rw [powN_def, powN_def, ← Nat.pow_mod]
theorem powN_mulb (a b n : Nat) : powN (a * b) n = (powN a n * powN b n) % 2147483579 := by
  rw [powN_def, powN_def, powN_def, Nat.mul_pow, Nat.mul_mod]

/-- exponents count modulo Q -/
theorem powN_modQ {a : Int} (ha : elB a = true) (n : Nat) : powN a.toNat (n % 1073741789) = powN a.toNat n := by
  have h := pow_Q ha
  have e : n = 1073741789 * (n / 1073741789) + n % 1073741789 := by omega
  have e2 : powN a.toNat (1073741789 * (n / 1073741789)) = 1 := by
    rw [← powN_mulr, h]
    rw [powN_def, Nat.one_pow]
  conv => rhs; rw [e, powN_add, e2, Nat.one_mul]
  exact (Nat.mod_eq_of_lt (powN_lt _ _)).symm

theorem powZ_nat {a : Int} (ha : elB a = true) (n : Nat) : powZ a n = (powN a.toNat n : Int) := by
  rw [powZ_eq ha, ← powN_modQ ha n]
  congr 2

theorem powZ_congr (a : Int) {m n : Int} (h : m % 1073741789 = n % 1073741789) : powZ a m = powZ a n := by
  unfold powZ; rw [h]

theorem cast_mul (x y : Nat) : ((x : Int) * (y : Int)) % 2147483579 = ((x * y % 2147483579 : Nat) : Int) := by
  rw [Int.natCast_emod, Int.natCast_mul]; rfl

/-- an int as a natural number, modulo Q -/
theorem rep (n : Int) : ∃ k : Nat, (k : Int) % 1073741789 = n % 1073741789 := ⟨(n % 1073741789).toNat, by
  have := Int.emod_nonneg n (show (1073741789 : Int) ≠ 0 by omega)
  rw [Int.toNat_of_nonneg this, Int.emod_emod]⟩

theorem powZ_add {a : Int} (ha : elB a = true) (m n : Int) : mulZ (powZ a m) (powZ a n) = powZ a (m + n) := by
  obtain ⟨i, hi⟩ := rep m
  obtain ⟨k, hk⟩ := rep n
  rw [mulZ_eq (powZ_el ha m) (powZ_el ha n), powZ_congr a hi.symm, powZ_congr a hk.symm,
    powZ_congr a (show (m + n) % 1073741789 = ((i + k : Nat) : Int) % 1073741789 by rw [Int.add_emod, ← hi, ← hk, ← Int.add_emod]; rfl),
    powZ_nat ha, powZ_nat ha, powZ_nat ha, powN_add, cast_mul]

theorem powZ_mul {a : Int} (ha : elB a = true) (m n : Int) : powZ (powZ a m) n = powZ a (m * n) := by
  obtain ⟨i, hi⟩ := rep m
  obtain ⟨k, hk⟩ := rep n
  have h2 := powZ_el ha (i : Int)
  rw [powZ_congr a hi.symm, powZ_congr _ hk.symm,
    powZ_congr a (show (m * n) % 1073741789 = ((i * k : Nat) : Int) % 1073741789 by rw [Int.mul_emod, ← hi, ← hk, ← Int.mul_emod, Int.natCast_mul]),
    powZ_nat h2, powZ_nat ha (i * k), ← powN_mulr, powZ_nat ha, Int.toNat_natCast]

theorem powZ_mulb {a b : Int} (ha : elB a = true) (hb : elB b = true) (n : Int) : powZ (mulZ a b) n = mulZ (powZ a n) (powZ b n) := by
  obtain ⟨k, hk⟩ := rep n
  have hab := mulZ_el ha hb
  obtain ⟨a1, _⟩ := elB_iff ha
  obtain ⟨b1, _⟩ := elB_iff hb
  rw [mulZ_eq (powZ_el ha n) (powZ_el hb n), powZ_congr a hk.symm, powZ_congr b hk.symm, powZ_congr _ hk.symm, powZ_nat ha, powZ_nat hb, powZ_nat hab, cast_mul, ← powN_mulb, mulZ_eq ha hb,
    toNat_mod (Int.mul_nonneg (by omega) (by omega)) (by omega), toNat_mul (by omega) (by omega)]
  exact congrArg _ (powN_mod _ _)

theorem powZ_zero {a : Int} (ha : elB a = true) : powZ a 0 = 1 := by
  have := powZ_nat ha 0
  rw [powN_def, Nat.pow_zero] at this; exact this
theorem powZ_one {a : Int} (ha : elB a = true) : powZ a 1 = a := by
  have := powZ_nat ha 1
  obtain ⟨a1, a2⟩ := elB_iff ha
  rw [powN_def, Nat.pow_one, Nat.mod_eq_of_lt (by omega), Int.toNat_of_nonneg (by omega)] at this; exact this
theorem powZ_inv {a : Int} (ha : elB a = true) : mulZ a (powZ a (-1)) = 1 := by
  have h := powZ_add ha 1 (-1)
  rw [powZ_one ha] at h
  rw [h]; exact powZ_zero ha


end Go.Proofs.YtpjobllfiimdkaaGreatDoor
