/- Codes known, and what is clean. -/
import Derived.Test.YthhlpkppcbillaaGreatDoorCod
import Derived.Test.YthhlpkppcbillaaGreatDoorDig0
namespace Go.Proofs.YthhlpkppcbillaaGreatDoor
open Go.RowKit
set_option linter.unusedVariables false
set_option linter.unusedSimpArgs false

set_option maxRecDepth 100000 in
set_option maxHeartbeats 2000000 in
theorem known_yes (k : Int) (w : World) (h0 : 1 ≤ k) (h1 : k ≤ 3) : Calls Tryz.prog 71 #[.int .i64 k] w fun e w' => e = .returned (.bool true) ∧ w' = w := by
  go_enter Tryz.func71, Tryz.ntmps71
  go_wp2_with fail
  go_ret
  exact ⟨rfl, rfl⟩
set_option maxRecDepth 100000 in
set_option maxHeartbeats 2000000 in
theorem cleanInt_any (k n : Int) (p : Option Addr) (cap : Nat) (w : World) : Calls Tryz.prog 72 #[.agg #[.int .i64 k, .int .i64 n, .string ⟨#[]⟩, .slice p 0 cap]] w fun e w' => e = .returned (.bool true) ∧ Below w.heap.size w w' := by
  go_enter Tryz.func72, Tryz.ntmps72
  go_wp2_with fail
  go_ret
  exact ⟨rfl, bel_alloc1 w _⟩
set_option maxRecDepth 100000 in
set_option maxHeartbeats 2000000 in
theorem cleanText_any (k : Int) (s : ByteArray) (p : Option Addr) (cap : Nat) (w : World) : Calls Tryz.prog 76 #[.agg #[.int .i64 k, .int .i64 0, .string s, .slice p 0 cap]] w fun e w' => e = .returned (.bool true) ∧ Below w.heap.size w w' := by
  go_enter Tryz.func76, Tryz.ntmps76
  go_wp2_with fail
  go_ret
  exact ⟨rfl, bel_alloc1 w _⟩
end Go.Proofs.YthhlpkppcbillaaGreatDoor
