/- bits.Len64, where digest.split is not reached. -/
import Derived.Test.YthhlpkppcbillaaGreatDoorDig0
import Derived.Laws.MathBits
namespace Go.Proofs.YthhlpkppcbillaaGreatDoor
open Go.RowKit
set_option linter.unusedVariables false
set_option linter.unusedSimpArgs false

theorem len_joinC (X Y k : Nat) (hk : k ≤ 56) (e : Y = X / 2 ^ k) (h : Y ≠ 0) (h2 : Y < 256) : wrap64 ((k : Int) + wrap64 ((bitLen Y : Nat) : Int)) = ((bitLen X : Nat) : Int) := by
  subst e
  have h1 := bitLen_shift X k h
  have h3 := bitLen_le8 _ h2
  unfold wrap64
  omega
theorem len_oneC (Y : Nat) (h2 : Y < 256) : wrap64 (wrap64 ((bitLen Y : Nat) : Int)) = ((bitLen Y : Nat) : Int) := by
  have h3 := bitLen_le8 _ h2
  unfold wrap64
  omega

set_option maxRecDepth 100000 in
set_option maxHeartbeats 4000000 in
theorem len64C (x : Int) (w : World) (h0 : 0 ≤ x) (h1 : x ≤ 18446744073709551615) :
    Calls Tryz.prog 105 #[.int .u64 x] w fun e w' => e = .returned (.int .i64 (bitLen x.toNat)) ∧ w' = w := by
  go_enter Tryz.func105, Tryz.ntmps105
  go_wp2
  all_goals (go_ret; refine ⟨congrArg Ending.returned (congrArg (Value.int IntKind.i64) ?_), rfl⟩)
  all_goals rw [len8tab_get]
  · exact len_joinC x.toNat (x / 4294967296 / 65536 / 256).toNat 56 (by omega) (by omega) (by omega) (by omega)
  · exact len_joinC x.toNat (x / 4294967296 / 65536).toNat 48 (by omega) (by omega) (by omega) (by omega)
  · exact len_joinC x.toNat (x / 4294967296 / 256).toNat 40 (by omega) (by omega) (by omega) (by omega)
  · exact len_joinC x.toNat (x / 4294967296).toNat 32 (by omega) (by omega) (by omega) (by omega)
  · exact len_joinC x.toNat (x / 65536 / 256).toNat 24 (by omega) (by omega) (by omega) (by omega)
  · exact len_joinC x.toNat (x / 65536).toNat 16 (by omega) (by omega) (by omega) (by omega)
  · exact len_joinC x.toNat (x / 256).toNat 8 (by omega) (by omega) (by omega) (by omega)
  · exact len_oneC x.toNat (by omega)

end Go.Proofs.YthhlpkppcbillaaGreatDoor
