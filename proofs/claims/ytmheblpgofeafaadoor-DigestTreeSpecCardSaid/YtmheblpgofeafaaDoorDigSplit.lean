/- Where a list is parted: digest.split, over bits.Len. -/
import Derived.Test.YtmheblpgofeafaaDoorDigBoth
import Derived.Laws.MathBits
namespace Go.Proofs.YtmheblpgofeafaaDoor
open Go.RowKit
set_option linter.unusedVariables false
set_option linter.unusedSimpArgs false

theorem len_join (X Y k : Nat) (hk : k ≤ 56) (e : Y = X / 2 ^ k) (h : Y ≠ 0) (h2 : Y < 256) : wrap64 ((k : Int) + wrap64 ((bitLen Y : Nat) : Int)) = ((bitLen X : Nat) : Int) := by
  subst e
  have h1 := bitLen_shift X k h
  have h3 := bitLen_le8 _ h2
  unfold wrap64
  omega
theorem len_one (Y : Nat) (h2 : Y < 256) : wrap64 (wrap64 ((bitLen Y : Nat) : Int)) = ((bitLen Y : Nat) : Int) := by
  have h3 := bitLen_le8 _ h2
  unfold wrap64
  omega

set_option maxRecDepth 100000 in
set_option maxHeartbeats 4000000 in
theorem len64_any (x : Int) (w : World) (h0 : 0 ≤ x) (h1 : x ≤ 18446744073709551615) :
    Calls Tryd.prog 69 #[.int .u64 x] w fun e w' => e = .returned (.int .i64 (bitLen x.toNat)) ∧ w' = w := by
  go_enter Tryd.func69, Tryd.ntmps69
  go_wp2
  all_goals (go_ret; refine ⟨congrArg Ending.returned (congrArg (Value.int IntKind.i64) ?_), rfl⟩)
  all_goals rw [len8tab_get]
  · exact len_join x.toNat (x / 4294967296 / 65536 / 256).toNat 56 (by omega) (by omega) (by omega) (by omega)
  · exact len_join x.toNat (x / 4294967296 / 65536).toNat 48 (by omega) (by omega) (by omega) (by omega)
  · exact len_join x.toNat (x / 4294967296 / 256).toNat 40 (by omega) (by omega) (by omega) (by omega)
  · exact len_join x.toNat (x / 4294967296).toNat 32 (by omega) (by omega) (by omega) (by omega)
  · exact len_join x.toNat (x / 65536 / 256).toNat 24 (by omega) (by omega) (by omega) (by omega)
  · exact len_join x.toNat (x / 65536).toNat 16 (by omega) (by omega) (by omega) (by omega)
  · exact len_join x.toNat (x / 256).toNat 8 (by omega) (by omega) (by omega) (by omega)
  · exact len_one x.toNat (by omega)

/-- the greatest power of 2 below a number that is greater than 1 -/
def spN (n : Nat) : Nat := 2 ^ (bitLen (n - 1) - 1)
theorem spN_lt {n : Nat} (h : 1 < n) : spN n < n := by
  have := (bitLen_spec (n - 1)).2 (by omega)
  unfold spN; omega
theorem spN_le {n : Nat} (h : 1 < n) : n ≤ 2 * spN n := by
  have h1 := (bitLen_spec (n - 1)).1
  have h2 : bitLen (n - 1) ≠ 0 := by unfold bitLen; rw [if_neg (by omega)]; omega
  unfold spN
  rw [show bitLen (n - 1) = (bitLen (n - 1) - 1) + 1 by omega, Nat.pow_succ] at h1
  omega
theorem spN_pos (n : Nat) : 0 < spN n := Nat.two_pow_pos _
theorem spN_exp {n : Nat} (h : 1 < n) (h2 : n ≤ 4611686018427387904) : 1 ≤ bitLen (n - 1) ∧ bitLen (n - 1) - 1 ≤ 61 := by
  have h1 := spN_lt h
  have h3 : bitLen (n - 1) ≠ 0 := by unfold bitLen; rw [if_neg (by omega)]; omega
  refine ⟨by omega, ?_⟩
  have : bitLen (n - 1) - 1 < 62 := (Nat.pow_lt_pow_iff_right (by omega : 1 < 2)).1 (by unfold spN at h1; omega)
  omega

set_option maxRecDepth 100000 in
set_option maxHeartbeats 4000000 in
theorem len_any (x : Int) (w : World) (h0 : 0 ≤ x) (h1 : x ≤ 18446744073709551615) :
    Calls Tryd.prog 61 #[.int .u64 x] w fun e w' => e = .returned (.int .i64 (bitLen x.toNat)) ∧ w' = w := by
  go_enter Tryd.func61, Tryd.ntmps61
  go_wp2_with (go_at_call 69; refine (len64_any x _ h0 h1).mono ?_; rintro e w' ⟨rfl, rfl⟩)
  go_ret
  exact ⟨rfl, rfl⟩

theorem two_pow_small (b : Nat) (h : b ≤ 61) : (2 ^ b : Nat) ≤ 2305843009213693952 := by
  have := Nat.pow_le_pow_right (show 0 < 2 by omega) h
  simpa using this
set_option maxRecDepth 100000 in
set_option maxHeartbeats 4000000 in
theorem split_any (n : Nat) (w : World) (h : 1 < n) (h2 : n ≤ 4611686018427387904) :
    Calls Tryd.prog 42 #[.int .i64 n] w fun e w' => e = .returned (.int .i64 (spN n)) ∧ w' = w := by
  obtain ⟨e1, e2⟩ := spN_exp h h2
  obtain ⟨m, rfl⟩ : ∃ m : Nat, n = m + 1 := ⟨n - 1, by omega⟩
  unfold spN
  rw [show m + 1 - 1 = m from rfl] at e1 e2 ⊢
  go_enter Tryd.func42, Tryd.ntmps42
  go_wp2_with fail
  refine (len_any (m : Int) _ (by omega) (by omega)).mono ?_; rintro e w' ⟨rfl, rfl⟩
  rw [Int.toNat_natCast]
  obtain ⟨b, hb⟩ : ∃ b, bitLen m = b + 1 := ⟨bitLen m - 1, by omega⟩
  rw [hb] at e2 ⊢
  have e3 : b ≤ 61 := by omega
  have i1 : ((b + 1 : Nat) : Int) - 1 = (b : Int) := by omega
  have HP := Lib.hid (two_pow_small b e3)
  have HB := Lib.hid hb
  clear e1 e2 hb
  go_wp2_with fail
  go_ret
  refine ⟨congrArg Ending.returned (congrArg (Value.int IntKind.i64) ?_), rfl⟩
  rw [HB.out, Nat.add_sub_cancel, show ((2 : Int) ^ b) = ((2 ^ b : Nat) : Int) by simp]
  have h9 := HP.out
  generalize 2 ^ b = q at h9 ⊢
  unfold wrap64
  omega
end Go.Proofs.YtmheblpgofeafaaDoor
