/- The statements' own helpers over package group, and the chapter's examples. -/
import Derived.Test.YtlniibplocnipaaGroupRef
namespace Go.Proofs.Ytlniibplocnipaa
open Go.RowKit
set_option linter.unusedVariables false

theorem P_eq : M.P = 2147483579 := rfl
theorem Q_eq : M.Q = 1073741789 := rfl

theorem elB_one : elB 1 = true := by
  have h := M.isEl_iff (x := 1)
  unfold elB
  exact h.2 ⟨by decide, by decide, by rw [Nat.one_pow]; rfl⟩

/-- squares are elements -/
theorem isEl_sq {n : Nat} (h1 : 1 ≤ n) (h2 : n < M.P) : M.isEl (n * n % M.P) = true := by
  have hc : Nat.Coprime (n * n) M.P := Nat.Coprime.mul_left (M.coP h1 h2) (M.coP h1 h2)
  have hm := M.gc_mul (h := M.Q) (a := n) (b := n) (M.coP h1 h2) (M.coP h1 h2)
  unfold M.isEl
  rw [decide_eq_true_iff]
  refine ⟨?_, Nat.mod_lt _ (by decide), ?_⟩
  · rcases Nat.eq_zero_or_pos (n * n % M.P) with e | e
    · have := Nat.Coprime.eq_one_of_dvd hc.symm (Nat.dvd_of_mod_eq_zero e)
      exact absurd this (by decide)
    · exact e
  · have := M.gc_mod M.Q (n * n)
    rw [← M.PQ] at this
    rw [this]; omega

theorem elB_sq {n : Int} (h1 : 1 ≤ n) (h2 : n < 2147483579) : elB (n * n % 2147483579) = true := by
  have := isEl_sq (n := n.toNat) (by omega) (by rw [P_eq]; omega)
  unfold elB
  rw [toNat_mod (Int.mul_nonneg (by omega) (by omega)) (by omega), toNat_mul (by omega) (by omega)]
  exact this

theorem elB_4 : elB 4 = true := elB_sq (n := 2) (by omega) (by omega)
theorem elB_2 : elB 2 = false := by
  have := M.gc_two M.Q
  unfold elB M.isEl
  rw [decide_eq_false_iff_not]
  rintro ⟨_, _, h⟩
  rw [show (2 : Int).toNat = 2 from rfl, this] at h
  exact absurd h (by decide)
theorem elB_0 : elB 0 = false := elB_low (by omega)
theorem elB_P : elB 2147483579 = false := elB_high (by omega)
theorem elB_P1 : elB 2147483578 = false := by
  have := element_low (n := 1) (by omega) (by omega)
  rw [elB_one] at this; exact this
theorem elB_P2 : elB 2147483577 = true := by
  have := element_low (n := 2) (by omega) (by omega)
  rw [elB_2] at this; exact this

theorem powN_def (a n : Nat) : powN a n = a ^ n % 2147483579 := rfl

/-- an element to the power of Q is 1 -/
theorem pow_Q {a : Int} (h : elB a = true) : powN a.toNat 1073741789 = 1 := by
  have h2 := (M.isEl_iff.1 h).2.2
  show powN a.toNat M.Q = 1
  rw [powN_def]; exact h2

theorem powN_lt (a n : Nat) : powN a n < 2147483579 := Nat.mod_lt _ (by decide)

theorem pow_inv' {a x q : Nat} (hc : Nat.Coprime a 2147483579) (hq : powN a (q + 1) = 1) (hx : (a * x) % 2147483579 = 1) (h1 : x < 2147483579) : powN a q = x := by
  rw [powN_def] at hq ⊢
  have e : (a * a ^ q) % 2147483579 = (a * x) % 2147483579 := by rw [hx, ← Nat.pow_succ']; exact hq
  have := M.mod_cancel hc e
  rw [Nat.mod_eq_of_lt (a := x) h1] at this
  exact this

/-- the power to Q - 1 is the inverse -/
theorem pow_inv {a x : Int} (h : elB a = true) (h0 : 0 ≤ x) (h1 : x < 2147483579) (hx : a * x % 2147483579 = 1) : (powN a.toNat 1073741788 : Int) = x := by
  obtain ⟨a1, a2⟩ := elB_iff h
  have hq := pow_Q h
  have hc : Nat.Coprime a.toNat 2147483579 := M.coP (by omega) (by rw [P_eq]; omega)
  have hx' : (a.toNat * x.toNat) % 2147483579 = 1 := by
    rw [← toNat_mul (by omega) h0]
    have := toNat_mod (m := a * x) (x := 2147483579) (Int.mul_nonneg (by omega) h0) (by omega)
    rw [hx] at this
    exact this.symm
  have := pow_inv' (q := 1073741788) hc hq hx' (by omega)
  omega

theorem c_pow1 : powZ 4 2 = 16 := by unfold powZ; rw [elB_4]; rfl
theorem c_pow2 : powZ 4 1073741789 = 1 := by unfold powZ; rw [elB_4]; rfl
theorem c_pow3 : powZ 4 (-1) = 536870895 := by
  unfold powZ; rw [elB_4]
  exact pow_inv (a := 4) elB_4 (by omega) (by omega) (by decide)
theorem c_powE : powE 4 = 0 := by unfold powE; rw [elB_4]; rfl
theorem c_pow4 : powZ 0 1 = 0 := by unfold powZ; rw [elB_0]; rfl
theorem c_powE4 : powE 0 = 90 := by unfold powE; rw [elB_0]; rfl
theorem c_mul1 : mulZ 4 4 = 16 := by unfold mulZ; rw [elB_4]; rfl
theorem c_mulE1 : mulE 4 4 = 0 := by unfold mulE; rw [elB_4]; rfl
theorem c_mul2 : mulZ 4 2 = 0 := by unfold mulZ; rw [elB_4, elB_2]; rfl
theorem c_mulE2 : mulE 4 2 = 90 := by unfold mulE; rw [elB_4, elB_2]; rfl
theorem c_elm1 : elmZ 2 = 2147483577 := by unfold elmZ; rw [elB_2]; rfl
theorem c_num1 : numZ 2147483577 = 2 := by unfold numZ; rw [elB_P2]; rfl
theorem c_numE1 : numE 2147483577 = 0 := by unfold numE; rw [elB_P2]; rfl
theorem c_num2 : numZ 2 = 0 := by unfold numZ; rw [elB_2]; rfl
theorem c_numE2 : numE 2 = 90 := by unfold numE; rw [elB_2]; rfl

theorem pow_c (a n x e : Int) (w : World) (h1 : powZ a n = x) (h2 : powE a = e) :
    Calls Try.prog 16 #[.int .i64 a, .int .i64 n] w fun r w' => r = .returned (.tuple #[.int .i64 x, .int .i64 e]) ∧ Below w.heap.size w w' := by
  rw [← h1, ← h2]; exact gPow_any a n w
theorem mul_c (a b x e : Int) (w : World) (h1 : mulZ a b = x) (h2 : mulE a b = e) :
    Calls Try.prog 14 #[.int .i64 a, .int .i64 b] w fun r w' => r = .returned (.tuple #[.int .i64 x, .int .i64 e]) ∧ Below w.heap.size w w' := by
  rw [← h1, ← h2]; exact gMul_any a b w
theorem elm_c (a x e : Int) (w : World) (h1 : elmZ a = x) (h2 : elmE a = e) :
    Calls Try.prog 23 #[.int .i64 a] w fun r w' => r = .returned (.tuple #[.int .i64 x, .int .i64 e]) ∧ w = w' := by
  rw [← h1, ← h2]; exact gElement_any a w
theorem num_c (a x e : Int) (w : World) (h1 : numZ a = x) (h2 : numE a = e) :
    Calls Try.prog 24 #[.int .i64 a] w fun r w' => r = .returned (.tuple #[.int .i64 x, .int .i64 e]) ∧ w = w' := by
  rw [← h1, ← h2]; exact gNumber_any a w
theorem val_c (a : Int) (v : Bool) (w : World) (h1 : elB a = v) :
    Calls Try.prog 18 #[.int .i64 a] w fun r w' => r = .returned (.bool v) ∧ w = w' := by
  rw [← h1]; exact valid_any a w

set_option maxRecDepth 100000 in
set_option maxHeartbeats 1000000 in
theorem sane_any (w : World) : Calls Try.prog 13 #[] w fun e w' => e = .returned (.bool true) ∧ Below w.heap.size w w' := by
  go_enter Try.func13, Try.ntmps13
  go_wp2_with fail
  refine (pow_c 4 2 _ _ _ c_pow1 c_powE).mono ?_; rintro e w1 ⟨rfl, hb1⟩
  go_wp2_with fail
  refine (pow_c 4 1073741789 _ _ _ c_pow2 c_powE).mono ?_; rintro e w2 ⟨rfl, hb2⟩
  have h2 := Lib.hid (bel_trans hb1 hb2); clear hb1 hb2
  go_wp2_with fail
  refine (pow_c 4 (-1) _ _ _ c_pow3 c_powE).mono ?_; rintro e w3 ⟨rfl, hb3⟩
  have h3 := Lib.hid (bel_trans h2.out hb3); clear hb3
  go_wp2_with fail
  refine (pow_c 0 1 _ _ _ c_pow4 c_powE4).mono ?_; rintro e w4 ⟨rfl, hb4⟩
  have h4 := Lib.hid (bel_trans h3.out hb4); clear hb4
  go_wp2_with fail
  refine (mul_c 4 4 _ _ _ c_mul1 c_mulE1).mono ?_; rintro e w5 ⟨rfl, hb5⟩
  have h5 := Lib.hid (bel_trans h4.out hb5); clear hb5
  go_wp2_with fail
  refine (mul_c 4 2 _ _ _ c_mul2 c_mulE2).mono ?_; rintro e w6 ⟨rfl, hb6⟩
  have h6 := Lib.hid (bel_trans h5.out hb6); clear hb6
  go_wp2_with fail
  refine (elm_c 2 _ 0 _ c_elm1 rfl).mono ?_; rintro e w' ⟨rfl, rfl⟩
  go_wp2_with fail
  refine (elm_c 0 0 1 _ rfl rfl).mono ?_; rintro e w' ⟨rfl, rfl⟩
  go_wp2_with fail
  refine (elm_c 1073741790 0 1 _ rfl rfl).mono ?_; rintro e w' ⟨rfl, rfl⟩
  go_wp2_with fail
  refine (num_c 2147483577 _ _ _ c_num1 c_numE1).mono ?_; rintro e w' ⟨rfl, rfl⟩
  go_wp2_with fail
  refine (num_c 2 _ _ _ c_num2 c_numE2).mono ?_; rintro e w' ⟨rfl, rfl⟩
  go_wp2_with fail
  refine (val_c 0 _ _ elB_0).mono ?_; rintro e w' ⟨rfl, rfl⟩
  go_wp2_with fail
  refine (val_c 2147483579 _ _ elB_P).mono ?_; rintro e w' ⟨rfl, rfl⟩
  go_wp2_with fail
  refine (val_c 2 _ _ elB_2).mono ?_; rintro e w' ⟨rfl, rfl⟩
  go_wp2_with fail
  refine (val_c 1 _ _ elB_one).mono ?_; rintro e w' ⟨rfl, rfl⟩
  go_wp2_with fail
  refine (val_c 4 _ _ elB_4).mono ?_; rintro e w' ⟨rfl, rfl⟩
  go_wp2_with fail
  refine (val_c 2147483578 _ _ elB_P1).mono ?_; rintro e w' ⟨rfl, rfl⟩
  go_wp2_with fail
  go_ret
  exact ⟨rfl, h6.out⟩

/-- some number is made an element -/
def elt (x : Int) : Int := elmZ (x % 1073741789 + 1)

theorem elt_el (x : Int) : elB (elt x) = true := by
  have m1 := Int.emod_nonneg x (show (1073741789 : Int) ≠ 0 by omega)
  have m2 := Int.emod_lt_of_pos x (show (0 : Int) < 1073741789 by omega)
  unfold elt elmZ
  rw [if_pos (by omega)]
  cases h : elB (x % 1073741789 + 1) with
  | true => rw [if_pos rfl]; exact h
  | false => rw [if_neg (by simp), element_low (by omega) (by omega), h]; rfl

set_option maxHeartbeats 400000 in
theorem element_any (x : Int) (w : World) :
    Calls Try.prog 20 #[.int .i64 x] w fun e w' => e = .returned (.int .i64 (elt x)) ∧ w = w' := by
  have h1 := Int.tmod_lt_of_pos x (show (0 : Int) < 1073741789 by omega)
  have h2 : -1073741789 < x.tmod 1073741789 := Int.lt_tmod_of_pos x (by omega)
  have e := exp_eq x
  have HE := Lib.hid (show elmZ (x % 1073741789 + 1) = elt x from rfl)
  by_cases h : x.tmod 1073741789 < 0
  · have H := Lib.hid (show x.tmod 1073741789 + 1073741789 + 1 = x % 1073741789 + 1 by omega)
    clear e
    go_enter Try.func20, Try.ntmps20
    go_wp2_with (go_at_call 23; rw [H.out]; refine (gElement_any _ _).mono ?_; rintro e w' ⟨rfl, rfl⟩)
    go_ret
    exact ⟨ret_int HE.out, rfl⟩
  · have H := Lib.hid (show x.tmod 1073741789 + 1 = x % 1073741789 + 1 by omega)
    clear e
    go_enter Try.func20, Try.ntmps20
    go_wp2_with (go_at_call 23; rw [H.out]; refine (gElement_any _ _).mono ?_; rintro e w' ⟨rfl, rfl⟩)
    go_ret
    exact ⟨ret_int HE.out, rfl⟩

theorem mulE_zero {a b : Int} (h : mulE a b ≠ 0) : mulZ a b = 0 := by
  unfold mulE mulZ at *; split <;> simp_all

set_option maxHeartbeats 400000 in
theorem lpow_any (a n : Int) (w : World) :
    Calls Try.prog 22 #[.int .i64 a, .int .i64 n] w fun e w' => e = .returned (.int .i64 (powZ a n)) ∧ Below w.heap.size w w' := by
  cases ha : elB a with
  | true =>
    have e2 := show powE a = 0 by unfold powE; rw [ha]; rfl
    have HE := Lib.hid e2; clear e2
    go_enter Try.func22, Try.ntmps22
    go_wp2_with (go_at_call 16; refine (pow_c _ _ _ 0 _ rfl HE.out).mono ?_; rintro e w' ⟨rfl, hb⟩)
    go_ret
    exact ⟨rfl, hb⟩
  | false =>
    have e1 := show powZ a n = 0 by unfold powZ; rw [ha]; rfl
    have e2 := show powE a = 90 by unfold powE; rw [ha]; rfl
    have H1 := Lib.hid e1; have HE := Lib.hid e2; clear e1 e2
    go_enter Try.func22, Try.ntmps22
    go_wp2_with (go_at_call 16; refine (pow_c _ _ 0 90 _ H1.out HE.out).mono ?_; rintro e w' ⟨rfl, hb⟩)
    go_ret
    exact ⟨ret_int H1.out.symm, hb⟩

theorem mulZ_one {a : Int} (h : elB a = true) : mulZ 1 a = a := by
  obtain ⟨h1, h2⟩ := elB_iff h
  unfold mulZ; rw [elB_one, h]; show 1 * a % 2147483579 = a; omega
theorem mulE_one {a : Int} (h : elB a = true) : mulE 1 a = 0 := by unfold mulE; rw [elB_one, h]; rfl
theorem mulZ_el {a b : Int} (ha : elB a = true) (hb : elB b = true) : elB (mulZ a b) = true := by
  obtain ⟨a1, _⟩ := elB_iff ha
  obtain ⟨b1, _⟩ := elB_iff hb
  have := M.isEl_mul ha hb
  unfold mulZ; rw [ha, hb]
  show elB (a * b % 2147483579) = true
  unfold elB
  rw [toNat_mod (Int.mul_nonneg (by omega) (by omega)) (by omega), toNat_mul (by omega) (by omega)]
  exact this
theorem mulE_el {a b : Int} (ha : elB a = true) (hb : elB b = true) : mulE a b = 0 := by unfold mulE; rw [ha, hb]; rfl

set_option maxHeartbeats 400000 in
/-- the product of two elements, by the statements' helper -/
theorem lmul_any (a b : Int) (k : Nat) (w : World) (ha : elB a = true) (hb : elB b = true) (c0 : w.cell? ⟨k, 0, none⟩ = some (.int .i64 a)) (c1 : w.cell? ⟨k, 1, none⟩ = some (.int .i64 b)) (hk : k < w.heap.size) :
    Calls Try.prog 21 #[.slice (some ⟨k, 0, none⟩) 2 2] w fun e w' => e = .returned (.int .i64 (mulZ a b)) ∧ Below w.heap.size w w' := by
  have H1 := Lib.hid (mulZ_one ha)
  have H2 := Lib.hid (mulE_one ha)
  have H3 := Lib.hid (mulE_el ha hb)
  clear ha hb
  go_enter Try.func21, Try.ntmps21
  go_wp2
  go_loopw [3, 10] (fun c i wr => Below w.heap.size w wr ∧ ((c = .int .i64 1 ∧ i = .int .i64 0) ∨ (c = .int .i64 a ∧ i = .int .i64 1) ∨ (c = .int .i64 (mulZ a b) ∧ i = .int .i64 2))) (fun _ i _ => (2 - intOf i).toNat)
  case atStart => exact ⟨Below.refl _ _, .inl ⟨rfl, rfl⟩⟩
  case round =>
    obtain ⟨hB, hrel⟩ := hrel
    rcases hrel with ⟨rfl, rfl⟩ | ⟨rfl, rfl⟩ | ⟨rfl, rfl⟩
    · have d0 : wr.cell? ⟨k, 0, none⟩ = some (.int .i64 a) := (hB.cell (p := ⟨k, 0, none⟩) hk).trans c0
      have HB := Lib.hid hB; clear hB
      go_wp2_with (go_at_call 14; refine (mul_c 1 a a 0 _ H1.out H2.out).mono ?_; rintro e w' ⟨rfl, hb⟩)
      go_roundw
      case rel => exact ⟨HB.out.trans (hb.mono HB.out.size), .inr (.inl ⟨rfl, rfl⟩)⟩
      case measure => simp [intOf]
    · have d1 : wr.cell? ⟨k, 1, none⟩ = some (.int .i64 b) := (hB.cell (p := ⟨k, 1, none⟩) hk).trans c1
      have HB := Lib.hid hB; clear hB
      go_wp2_with (go_at_call 14; refine (mul_c a b _ 0 _ rfl H3.out).mono ?_; rintro e w' ⟨rfl, hb⟩)
      go_roundw
      case rel => exact ⟨HB.out.trans (hb.mono HB.out.size), .inr (.inr ⟨rfl, rfl⟩)⟩
      case measure => simp [intOf]
    · go_wp2
      go_ret
      exact ⟨rfl, hB⟩
end Go.Proofs.Ytlniibplocnipaa
