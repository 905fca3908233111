/- Integers written: codec.unsigned, writeInt. -/
import Derived.Test.YthhlpkppcbillaaGreatDoorCodNum
import Derived.Test.YthhlpkppcbillaaGreatDoorCodChk
import Derived.Laws.Bits64
namespace Go.Proofs.YthhlpkppcbillaaGreatDoor
open Go.RowKit
set_option linter.unusedVariables false
set_option linter.unusedSimpArgs false

set_option maxRecDepth 100000 in
set_option maxHeartbeats 2000000 in
theorem unsigned_pos (n : Nat) (w : World) (hn : n < 4611686018427387904) : Calls Tryz.prog 94 #[.int .i64 n] w fun e w' => e = .returned (.int .u64 ((2 * n : Nat) : Int)) ∧ w = w' := by
  go_enter Tryz.func94, Tryz.ntmps94
  go_wp2_with fail
  go_ret
  have e1 : (n : Int) / 9223372036854775808 = ((0 : Nat) : Int) := by omega
  have e2 : (n : Int) * 2 = ((2 * n : Nat) : Int) := by omega
  refine ⟨?_, rfl⟩
  rw [e1, e2, bits_xor_u64_nat _ _ (by omega) (by omega), Nat.xor_zero]
  rfl
set_option maxRecDepth 100000 in
set_option maxHeartbeats 2000000 in
theorem writeInt_own (n B : Nat) (v : Value) (xs : List Int) (w : World) (ho : Hid (Own8 w B v xs)) (hn : n < 4611686018427387904) (hx : Hid (xs.length + 20 ≤ 2000000000)) (hB : B ≤ w.heap.size) :
    Calls Tryz.prog 73 #[v, .agg #[.int .i64 1, .int .i64 n, .string ⟨#[]⟩, .slice none 0 0]] w fun e w' => ∃ v', e = .returned v' ∧ Own8 w' B v' (xs ++ numL (2 * n)) ∧ Kp B w w' := by
  go_enter Tryz.func73, Tryz.ntmps73
  go_wp2_with (first
    | (go_at_call 94; refine (unsigned_pos n _ hn).mono ?_; rintro e u1 ⟨rfl, rfl⟩)
    | (go_at_call 93; refine (writeNumeral_own (2 * n) B v xs _ (Lib.hid (own8_alloc ho.out _)) (by omega) hx (by simp; omega)).mono ?_; rintro e u2 ⟨v', rfl, ho2, hk2⟩))
  go_ret
  exact ⟨v', rfl, ho2, (Kp.refl.alloc hB _).trans hk2⟩
end Go.Proofs.YthhlpkppcbillaaGreatDoor
