/- How long an encoding is, bounded: codec.sizeNumeral. -/
import Derived.Test.YthhlpkppcbillaaGreatDoorCodLen
import Derived.Test.YthhlpkppcbillaaGreatDoorCodInt
namespace Go.Proofs.YthhlpkppcbillaaGreatDoor
open Go.RowKit
set_option linter.unusedVariables false
set_option linter.unusedSimpArgs false

set_option maxRecDepth 100000 in
set_option maxHeartbeats 2000000 in
theorem sizeNumeral_any (x : Nat) (w : World) (hx : x < 9223372036854775808) :
    Calls Tryz.prog 95 #[.int .u64 x] w fun e w' => (∃ k : Nat, e = .returned (.int .i64 k) ∧ k ≤ 10) ∧ w' = w := by
  have hb : bitLen x ≤ 64 := by
    by_cases h : x = 0
    · subst h; decide
    · have := (bitLen_spec x).1
      have h2 := (bitLen_spec x).2 (by omega)
      have : 2 ^ (bitLen x - 1) < 2 ^ 63 := by omega
      have := (Nat.pow_lt_pow_iff_right (a := 2) (by omega)).1 this
      omega
  obtain ⟨m, hm⟩ : ∃ m, bitLen x = m := ⟨_, rfl⟩
  rw [hm] at hb
  go_enter Tryz.func95, Tryz.ntmps95
  go_wp2_with (go_at_call 105; refine (len64C x _ (by omega) (by omega)).mono ?_; rintro e u1 ⟨rfl, rfl⟩; simp only [Int.toNat_natCast, hm])
  · go_ret
    exact ⟨⟨1, rfl, by omega⟩, rfl⟩
  · go_ret
    exact ⟨⟨(m + 6) / 7, by simp, by omega⟩, rfl⟩
set_option maxRecDepth 100000 in
set_option maxHeartbeats 2000000 in
theorem sizeInt_any (n : Nat) (w : World) (hn : n < 4611686018427387904) :
    Calls Tryz.prog 74 #[.agg #[.int .i64 1, .int .i64 n, .string ⟨#[]⟩, .slice none 0 0]] w fun e w' => (∃ k : Nat, e = .returned (.int .i64 k) ∧ k ≤ 10) ∧ Below w.heap.size w w' := by
  go_enter Tryz.func74, Tryz.ntmps74
  go_wp2_with (first
    | (go_at_call 94; refine (unsigned_pos n _ hn).mono ?_; rintro e u1 ⟨rfl, rfl⟩)
    | (go_at_call 95; refine (sizeNumeral_any (2 * n) _ (by omega)).mono ?_; rintro e u2 ⟨⟨k, rfl, hk⟩, rfl⟩))
  go_ret
  exact ⟨⟨k, rfl, hk⟩, bel_alloc1 w _⟩
end Go.Proofs.YthhlpkppcbillaaGreatDoor
