/- Package group: each function returns what its definition in plain numbers says, for all ints. -/
import Derived.Test.YtpjobllfiimdkaaGreatDoorValid
namespace Go.Proofs.YtpjobllfiimdkaaGreatDoor
open Go.RowKit
set_option linter.unusedVariables false

/-- nothing that lay when the call began has turned -/
theorem bel_trans {w w1 w2 : World} (h1 : Below w.heap.size w w1) (h2 : Below w1.heap.size w1 w2) : Below w.heap.size w w2 := h1.trans (h2.mono h1.size)

theorem mul_bound {a b : Int} (a0 : 0 ≤ a) (a1 : a < 2147483579) (b0 : 0 ≤ b) (b1 : b < 2147483579) : 0 ≤ a * b ∧ a * b ≤ 4611686018427387904 := by
  refine ⟨Int.mul_nonneg a0 b0, ?_⟩
  have : a * b ≤ 2147483579 * 2147483579 := Int.mul_le_mul (by omega) (by omega) b0 (by omega)
  omega

set_option maxHeartbeats 400000 in
theorem gmul_any (a b : Int) (w : World) (a0 : 0 ≤ a) (a1 : a < 2147483579) (b0 : 0 ≤ b) (b1 : b < 2147483579) :
    Calls Tryz.prog 74 #[.int .i64 a, .int .i64 b] w fun e w' => e = .returned (.int .i64 (a * b % 2147483579)) ∧ w = w' := by
  obtain ⟨m0, m1⟩ := mul_bound a0 a1 b0 b1
  go_enter Tryz.func74, Tryz.ntmps74
  go_wp2
  go_ret
  exact ⟨rfl, rfl⟩

theorem ret_bool {a b : Bool} (h : a = b) : Ending.returned (.bool a) = .returned (.bool b) := by rw [h]
theorem ret_int {a b : Int} (h : a = b) : Ending.returned (.int .i64 a) = .returned (.int .i64 b) := by rw [h]
theorem ret_two {a b c d : Int} (h : a = b) (k : c = d) : Ending.returned (.tuple #[.int .i64 a, .int .i64 c]) = .returned (.tuple #[.int .i64 b, .int .i64 d]) := by rw [h, k]

theorem all_take (p : Int → Bool) (zs : List Int) (k : Nat) (h : k < zs.length) : (zs.take (k + 1)).all p = ((zs.take k).all p && p (zs.getD k 0)) := by
  rw [List.take_succ_eq_append_getElem h, List.all_append]; simp [List.getD, h]

theorem all_false (p : Int → Bool) (zs : List Int) (k : Nat) (h : k < zs.length) (hp : p (zs.getD k 0) = false) : zs.all p = false := by
  rw [← Bool.not_eq_true, List.all_eq_true]
  intro ha
  have := ha (zs.getD k 0) (by simp [List.getD, h])
  rw [hp] at this; cases this

set_option maxHeartbeats 400000 in
/-- all of some numbers are elements -/
theorem gvalid_any (b off len cap : Nat) (zs : List Int) (w : World) (hz : len = zs.length) (hbig : len ≤ 9223372036854775807) (hc : ∀ j, j < zs.length → w.cell? ⟨b, off + j, none⟩ = some (.int .i64 (zs.getD j 0))) :
    Calls Tryz.prog 85 #[.slice (some ⟨b, off, none⟩) len cap] w fun e w' => e = .returned (.bool (zs.all elB)) ∧ w = w' := by
  have HZ := Lib.hid hz; clear hz
  have HC := Lib.hid hc; clear hc
  go_enter Tryz.func85, Tryz.ntmps85
  go_wp2
  go_loop [7] (fun i => ∃ k : Nat, k ≤ len ∧ i = .int .i64 k ∧ (zs.take k).all elB = true) (fun i => len - (intOf i).toNat)
  case atStart => exact ⟨0, Nat.zero_le _, rfl, rfl⟩
  case round =>
    obtain ⟨k, hk, rfl, hp⟩ := hrel
    have HP := Lib.hid hp; clear hp
    by_cases hlt : k < len
    · have hcell := HC.out k (by have := HZ.out; omega)
      have HT := Lib.hid (all_take elB zs k (by have := HZ.out; omega))
      have HF := Lib.hid (all_false elB zs k (by have := HZ.out; omega))
      generalize hx : zs.getD k 0 = x at hcell HT HF
      clear hx
      cases hv : elB x with
      | true =>
        have HV := Lib.hid hv
        go_wp2_with (go_at_call 25; refine (valid_any _ _).mono ?_; rintro e w' ⟨rfl, rfl⟩)
        go_round
        case rel => exact ⟨k + 1, by omega, by go_num, by rw [HT.out, HP.out, HV.out]; rfl⟩
        case measure => simp [intOf]; omega
      | false =>
        have HV := Lib.hid hv
        go_wp2_with (go_at_call 25; refine (valid_any _ _).mono ?_; rintro e w' ⟨rfl, rfl⟩)
        go_ret
        exact ⟨ret_bool (HF.out HV.out).symm, rfl⟩
    · go_wp2
      go_ret
      exact ⟨ret_bool (by have h := HP.out; rw [List.take_of_length_le (by have := HZ.out; omega)] at h; exact h.symm), rfl⟩

/-- the product of two elements; 0 if one is none -/
def mulZ (a b : Int) : Int := if elB a && elB b then a * b % 2147483579 else 0
def mulE (a b : Int) : Int := if elB a && elB b then 0 else 90

theorem elB_iff {a : Int} (h : elB a = true) : 1 ≤ a ∧ a < 2147483579 := by
  have h1 := (M.isEl_iff.1 h)
  have : M.P = 2147483579 := rfl
  omega

theorem ints_new (zs : List Int) (w : World) (t : TypeId) (j : Nat) (h : j < zs.length) :
    (w.alloc (.cells (zs.map (Value.int .i64)).toArray t)).cell? ⟨w.heap.size, 0 + j, none⟩ = some (.int .i64 (zs.getD j 0)) := by
  rw [Nat.zero_add, World.cell?_alloc_new]; simp [List.getD, h]

theorem gvalid2 (a b : Int) (v : Bool) (w : World) (hv : [a, b].all elB = v) :
    Calls Tryz.prog 85 #[.slice (some ⟨w.heap.size, 0, none⟩) 2 2] (w.alloc (.cells #[.int .i64 a, .int .i64 b] 3))
      fun e w' => e = .returned (.bool v) ∧ w.alloc (.cells #[.int .i64 a, .int .i64 b] 3) = w' := by
  rw [← hv]
  exact gvalid_any w.heap.size 0 2 2 [a, b] _ rfl (by omega) (fun j h => ints_new [a, b] w 3 j h)

theorem bel_alloc1 (w : World) (o : Obj) : Below w.heap.size w (w.alloc o) := (Below.refl _ w).alloc (Nat.le_refl _) o

set_option maxHeartbeats 400000 in
theorem gMul_any (a b : Int) (w : World) :
    Calls Tryz.prog 62 #[.int .i64 a, .int .i64 b] w fun e w' => e = .returned (.tuple #[.int .i64 (mulZ a b), .int .i64 (mulE a b)]) ∧ Below w.heap.size w w' := by
  have hall : [a, b].all elB = (elB a && elB b) := by simp
  cases hv : (elB a && elB b) with
  | true =>
    have e1 := Lib.hid (show mulZ a b = a * b % 2147483579 by unfold mulZ; rw [hv]; rfl)
    have e2 := Lib.hid (show mulE a b = 0 by unfold mulE; rw [hv]; rfl)
    have ha := elB_iff (Bool.and_eq_true_iff.1 hv).1
    have hb := elB_iff (Bool.and_eq_true_iff.1 hv).2
    rw [hv] at hall
    have HA := Lib.hid hall; clear hall hv
    go_enter Tryz.func62, Tryz.ntmps62
    go_wp2_with fail
    refine (gvalid2 a b _ w HA.out).mono ?_; rintro e w' ⟨rfl, rfl⟩
    go_wp2_with (go_at_call 74; refine (gmul_any _ _ _ (by omega) (by omega) (by omega) (by omega)).mono ?_; rintro e w' ⟨rfl, rfl⟩)
    go_ret2
    exact ⟨ret_two e1.out.symm e2.out.symm, bel_alloc1 _ _⟩
  | false =>
    have e1 := Lib.hid (show mulZ a b = 0 by unfold mulZ; rw [hv]; rfl)
    have e2 := Lib.hid (show mulE a b = 90 by unfold mulE; rw [hv]; rfl)
    rw [hv] at hall
    have HA := Lib.hid hall; clear hall hv
    go_enter Tryz.func62, Tryz.ntmps62
    go_wp2_with fail
    refine (gvalid2 a b _ w HA.out).mono ?_; rintro e w' ⟨rfl, rfl⟩
    go_wp2
    go_ret2
    exact ⟨ret_two e1.out.symm e2.out.symm, bel_alloc1 _ _⟩

/-- the exponent from 0 to Q - 1 -/
theorem exp_eq (n : Int) : ((n.tmod 1073741789) + 1073741789) % 1073741789 = n % 1073741789 := by
  rw [Int.add_emod_right, Int.tmod_eq_emod]
  split <;> simp

set_option maxHeartbeats 400000 in
theorem gexp_any (n : Int) (b : Nat) (w : World) (hc : w.cell? ⟨b, 0, none⟩ = some (.int .i64 n)) :
    Calls Tryz.prog 73 #[.slice (some ⟨b, 0, none⟩) 1 1] w
      fun e w' => e = .returned (.int .i64 (n % 1073741789)) ∧ w = w' := by
  have H := Lib.hid (exp_eq n)
  have h1 := Int.tmod_lt_of_pos n (show (0 : Int) < 1073741789 by omega)
  have h2 : -1073741789 < n.tmod 1073741789 := Int.lt_tmod_of_pos n (by omega)
  go_enter Tryz.func73, Tryz.ntmps73
  go_wp2
  go_loop [3, 8] (fun s i => (s = .int .i64 0 ∧ i = .int .i64 0) ∨ (s = .int .i64 (n % 1073741789) ∧ i = .int .i64 1)) (fun _ i => (1 - intOf i).toNat)
  case atStart => exact .inl ⟨rfl, rfl⟩
  case round =>
    rcases hrel with ⟨rfl, rfl⟩ | ⟨rfl, rfl⟩
    · go_wp2
      go_round
      case rel => exact .inr ⟨by rw [H.out], rfl⟩
      case measure => simp [intOf]
    · go_wp2
      go_ret
      exact ⟨rfl, rfl⟩

set_option maxHeartbeats 400000 in
theorem gsquares_any (a n : Int) (b : Nat) (w : World) (hb : w.heap.size = b) :
    Calls Tryz.prog 72 #[.int .i64 a, .int .i64 n] w
      fun e w' => e = .returned (.func (.func 93) #[] #[.pointer (some ⟨b, 0, none⟩), .pointer (some ⟨b + 1, 0, none⟩)])
        ∧ (w.alloc (.cells #[.int .i64 a] 3)).alloc (.cells #[.int .i64 n] 3) = w' := by
  subst hb
  go_enter Tryz.func72, Tryz.ntmps72
  go_wp2
  go_ret
  exact ⟨rfl, rfl⟩

theorem element_low {n : Int} (h1 : 1 ≤ n) (h2 : n < 2147483579) : elB (2147483579 - n) = !elB n := by
  have := M.isEl_neg (x := n.toNat) (by omega) (by have : M.P = 2147483579 := rfl; omega)
  unfold elB
  rw [← this]; congr 1
  have : M.P = 2147483579 := rfl
  omega

/-- the element of a number -/
def elmZ (n : Int) : Int := if 1 ≤ n ∧ n ≤ 1073741789 then (if elB n then n else 2147483579 - n) else 0
def elmE (n : Int) : Int := if 1 ≤ n ∧ n ≤ 1073741789 then 0 else 1

/-- the number of an element -/
def numZ (x : Int) : Int := if elB x then (if x ≤ 1073741789 then x else 2147483579 - x) else 0
def numE (x : Int) : Int := if elB x then 0 else 90

end Go.Proofs.YtpjobllfiimdkaaGreatDoor
