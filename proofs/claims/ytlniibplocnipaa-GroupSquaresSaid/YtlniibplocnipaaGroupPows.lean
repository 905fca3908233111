/- Elements are a commutative group: for all ints. No condition. -/
import Derived.Test.YtlniibplocnipaaLawKit
import Derived.Test.YtlniibplocnipaaGroupLaw
namespace Go.Proofs.Ytlniibplocnipaa
open Go.ChangeShapes Go.WideShapes Go.ChangeAt Go.RowKit
set_option linter.unusedVariables false

theorem mulZ_eq {a b : Int} (ha : elB a = true) (hb : elB b = true) : mulZ a b = a * b % 2147483579 := by unfold mulZ; rw [ha, hb]; rfl
theorem mulZ_comm {a b : Int} (ha : elB a = true) (hb : elB b = true) : mulZ a b = mulZ b a := by
  rw [mulZ_eq ha hb, mulZ_eq hb ha, Int.mul_comm]
theorem mulZ_assoc {a b c : Int} (ha : elB a = true) (hb : elB b = true) (hc : elB c = true) : mulZ (mulZ a b) c = mulZ a (mulZ b c) := by
  rw [mulZ_eq (mulZ_el ha hb) hc, mulZ_eq ha (mulZ_el hb hc), mulZ_eq ha hb, mulZ_eq hb hc, Int.mul_emod (a * b % 2147483579) c, Int.emod_emod, ← Int.mul_emod, Int.mul_emod a (b * c % 2147483579), Int.emod_emod, ← Int.mul_emod, Int.mul_assoc]
theorem mulZ_one_r {a : Int} (ha : elB a = true) : mulZ a 1 = a := by rw [mulZ_comm ha elB_one, mulZ_one ha]

/-- powers of elements are elements -/
theorem powN_el {a : Int} (ha : elB a = true) (n : Nat) : elB (powN a.toNat n : Int) = true := by
  induction n with
  | zero => exact elB_one
  | succ n ih =>
    have h := mulZ_el ih ha
    rw [mulZ_eq ih ha] at h
    have e : (powN a.toNat (n + 1) : Int) = (powN a.toNat n : Int) * a % 2147483579 := by
      obtain ⟨a1, _⟩ := elB_iff ha
      have : powN a.toNat (n + 1) = (powN a.toNat n * a.toNat) % 2147483579 := by
        rw [powN_def, powN_def, Nat.pow_succ, Nat.mod_mul_mod]
      rw [this, Int.natCast_emod, Int.natCast_mul, Int.toNat_of_nonneg (by omega)]; rfl
    rw [e]; exact h
theorem powZ_eq {a : Int} (ha : elB a = true) (n : Int) : powZ a n = (powN a.toNat (n % 1073741789).toNat : Int) := by unfold powZ; rw [ha]; rfl
theorem powZ_el {a : Int} (ha : elB a = true) (n : Int) : elB (powZ a n) = true := by rw [powZ_eq ha]; exact powN_el ha _

theorem powN_add (a m n : Nat) : powN a (m + n) = (powN a m * powN a n) % 2147483579 := by
  rw [powN_def, powN_def, powN_def, Nat.pow_add, Nat.mul_mod]
theorem powN_mulr (a m n : Nat) : powN (powN a m) n = powN a (m * n) := by
  rw [powN_def, powN_def, powN_def, ← Nat.pow_mod, Nat.pow_mul]
theorem powN_mod (a n : Nat) : powN (a % 2147483579) n = powN a n := by rw [powN_def, powN_def, ← Nat.pow_mod]
theorem powN_mulb (a b n : Nat) : powN (a * b) n = (powN a n * powN b n) % 2147483579 := by
  rw [powN_def, powN_def, powN_def, Nat.mul_pow, Nat.mul_mod]

/-- exponents count modulo Q -/
theorem powN_modQ {a : Int} (ha : elB a = true) (n : Nat) : powN a.toNat (n % 1073741789) = powN a.toNat n := by
  have h := pow_Q ha
  have e : n = 1073741789 * (n / 1073741789) + n % 1073741789 := by omega
  have e2 : powN a.toNat (1073741789 * (n / 1073741789)) = 1 := by
    rw [← powN_mulr, h]
    rw [powN_def, Nat.one_pow]
  conv => rhs; rw [e, powN_add, e2, Nat.one_mul]
  exact (Nat.mod_eq_of_lt (powN_lt _ _)).symm

theorem powZ_nat {a : Int} (ha : elB a = true) (n : Nat) : powZ a n = (powN a.toNat n : Int) := by
  rw [powZ_eq ha, ← powN_modQ ha n]
  congr 2

theorem powZ_congr (a : Int) {m n : Int} (h : m % 1073741789 = n % 1073741789) : powZ a m = powZ a n := by
  unfold powZ; rw [h]

theorem cast_mul (x y : Nat) : ((x : Int) * (y : Int)) % 2147483579 = ((x * y % 2147483579 : Nat) : Int) := by
  rw [Int.natCast_emod, Int.natCast_mul]; rfl

/-- an int as a natural number, modulo Q -/
theorem rep (n : Int) : ∃ k : Nat, (k : Int) % 1073741789 = n % 1073741789 := ⟨(n % 1073741789).toNat, by
  have := Int.emod_nonneg n (show (1073741789 : Int) ≠ 0 by omega)
  rw [Int.toNat_of_nonneg this, Int.emod_emod]⟩

theorem powZ_add {a : Int} (ha : elB a = true) (m n : Int) : mulZ (powZ a m) (powZ a n) = powZ a (m + n) := by
  obtain ⟨i, hi⟩ := rep m
  obtain ⟨k, hk⟩ := rep n
  rw [mulZ_eq (powZ_el ha m) (powZ_el ha n), powZ_congr a hi.symm, powZ_congr a hk.symm,
    powZ_congr a (show (m + n) % 1073741789 = ((i + k : Nat) : Int) % 1073741789 by rw [Int.add_emod, ← hi, ← hk, ← Int.add_emod]; rfl),
    powZ_nat ha, powZ_nat ha, powZ_nat ha, powN_add, cast_mul]

theorem powZ_mul {a : Int} (ha : elB a = true) (m n : Int) : powZ (powZ a m) n = powZ a (m * n) := by
  obtain ⟨i, hi⟩ := rep m
  obtain ⟨k, hk⟩ := rep n
  have h2 := powZ_el ha (i : Int)
  rw [powZ_congr a hi.symm, powZ_congr _ hk.symm,
    powZ_congr a (show (m * n) % 1073741789 = ((i * k : Nat) : Int) % 1073741789 by rw [Int.mul_emod, ← hi, ← hk, ← Int.mul_emod, Int.natCast_mul]),
    powZ_nat h2, powZ_nat ha (i * k), ← powN_mulr, powZ_nat ha, Int.toNat_natCast]

theorem powZ_mulb {a b : Int} (ha : elB a = true) (hb : elB b = true) (n : Int) : powZ (mulZ a b) n = mulZ (powZ a n) (powZ b n) := by
  obtain ⟨k, hk⟩ := rep n
  have hab := mulZ_el ha hb
  obtain ⟨a1, _⟩ := elB_iff ha
  obtain ⟨b1, _⟩ := elB_iff hb
  rw [mulZ_eq (powZ_el ha n) (powZ_el hb n), powZ_congr a hk.symm, powZ_congr b hk.symm, powZ_congr _ hk.symm, powZ_nat ha, powZ_nat hb, powZ_nat hab, cast_mul, ← powN_mulb, mulZ_eq ha hb,
    toNat_mod (Int.mul_nonneg (by omega) (by omega)) (by omega), toNat_mul (by omega) (by omega)]
  exact congrArg _ (powN_mod _ _)

theorem powZ_zero {a : Int} (ha : elB a = true) : powZ a 0 = 1 := by
  have := powZ_nat ha 0
  rw [powN_def, Nat.pow_zero] at this; exact this
theorem powZ_one {a : Int} (ha : elB a = true) : powZ a 1 = a := by
  have := powZ_nat ha 1
  obtain ⟨a1, a2⟩ := elB_iff ha
  rw [powN_def, Nat.pow_one, Nat.mod_eq_of_lt (by omega), Int.toNat_of_nonneg (by omega)] at this; exact this
theorem powZ_inv {a : Int} (ha : elB a = true) : mulZ a (powZ a (-1)) = 1 := by
  have h := powZ_add ha 1 (-1)
  rw [powZ_one ha] at h
  rw [h]; exact powZ_zero ha

theorem lpow_n (a n r : Int) (w : World) (hr : powZ a n = r) :
    Calls Try.prog 22 #[.int .i64 a, .int .i64 n] w fun e w' => e = .returned (.int .i64 r) ∧ Below w.heap.size w w' := by
  rw [← hr]; exact lpow_any a n w
theorem lmul_n (a b r : Int) (w : World) (ha : elB a = true) (hb : elB b = true) (hr : mulZ a b = r) :
    Calls Try.prog 21 #[.slice (some ⟨w.heap.size, 0, none⟩) 2 2] (w.alloc (.cells #[.int .i64 a, .int .i64 b] 3)) fun e w' => e = .returned (.int .i64 r) ∧ Below w.heap.size w w' := by
  rw [← hr]
  refine (lmul_any a b w.heap.size _ ha hb (by simp) (by simp) (by simp)).mono fun e w' h => ⟨h.1, ?_⟩
  exact (bel_alloc1 w _).trans (h.2.mono (by simp))
theorem elm_n (x r : Int) (w : World) (hr : elt x = r) :
    Calls Try.prog 20 #[.int .i64 x] w fun e w' => e = .returned (.int .i64 r) ∧ w = w' := by
  rw [← hr]; exact element_any x w

/-- the law's own names for what it makes -/
structure Grp (a b c ab bc abc ia ib iab : Int) : Prop where
  ha : elB a = true
  hb : elB b = true
  hc : elB c = true
  hab : elB ab = true
  hbc : elB bc = true
  hia : elB ia = true
  hib : elB ib = true
  eab : mulZ a b = ab
  eba : mulZ b a = ab
  ebc : mulZ b c = bc
  e1 : mulZ ab c = abc
  e2 : mulZ a bc = abc
  e3 : mulZ a 1 = a
  pa : powZ a (-1) = ia
  pb : powZ b (-1) = ib
  pab : powZ ab (-1) = iab
  e4 : mulZ a ia = 1
  e5 : mulZ ab ib = a
  e6 : mulZ ia ib = iab

theorem grp {a b c : Int} (ha : elB a = true) (hb : elB b = true) (hc : elB c = true) : ∃ ab bc abc ia ib iab, Grp a b c ab bc abc ia ib iab := by
  refine ⟨mulZ a b, mulZ b c, mulZ a (mulZ b c), powZ a (-1), powZ b (-1), powZ (mulZ a b) (-1), ha, hb, hc, mulZ_el ha hb, mulZ_el hb hc, powZ_el ha _, powZ_el hb _, rfl, mulZ_comm hb ha, rfl, mulZ_assoc ha hb hc, rfl, mulZ_one_r ha, rfl, rfl, rfl, powZ_inv ha, ?_, (powZ_mulb ha hb _).symm⟩
  rw [mulZ_assoc ha hb (powZ_el hb _), powZ_inv hb, mulZ_one_r ha]
end Go.Proofs.Ytlniibplocnipaa
