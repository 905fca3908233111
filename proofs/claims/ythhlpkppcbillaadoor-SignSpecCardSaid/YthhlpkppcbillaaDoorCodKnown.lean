/- Codes known, and what is clean. -/
import Derived.Test.YthhlpkppcbillaaDoorCod
import Derived.Test.YthhlpkppcbillaaDoorDig0
namespace Go.Proofs.YthhlpkppcbillaaDoor
open Go.RowKit
set_option linter.unusedVariables false
set_option linter.unusedSimpArgs false

set_option maxRecDepth 100000 in
set_option maxHeartbeats 2000000 in
theorem known_yes (k : Int) (w : World) (h0 : 1 ≤ k) (h1 : k ≤ 3) : Calls Tryd.prog 83 #[.int .i64 k] w fun e w' => e = .returned (.bool true) ∧ w' = w := by
  go_enter Tryd.func83, Tryd.ntmps83
  go_wp2_with fail
  go_ret
  exact ⟨rfl, rfl⟩
set_option maxRecDepth 100000 in
set_option maxHeartbeats 2000000 in
theorem cleanInt_any (k n : Int) (p : Option Addr) (cap : Nat) (w : World) : Calls Tryd.prog 84 #[.agg #[.int .i64 k, .int .i64 n, .string ⟨#[]⟩, .slice p 0 cap]] w fun e w' => e = .returned (.bool true) ∧ Below w.heap.size w w' := by
  go_enter Tryd.func84, Tryd.ntmps84
  go_wp2_with fail
  go_ret
  exact ⟨rfl, bel_alloc1 w _⟩
set_option maxRecDepth 100000 in
set_option maxHeartbeats 2000000 in
theorem cleanText_any (k : Int) (s : ByteArray) (p : Option Addr) (cap : Nat) (w : World) : Calls Tryd.prog 88 #[.agg #[.int .i64 k, .int .i64 0, .string s, .slice p 0 cap]] w fun e w' => e = .returned (.bool true) ∧ Below w.heap.size w w' := by
  go_enter Tryd.func88, Tryd.ntmps88
  go_wp2_with fail
  go_ret
  exact ⟨rfl, bel_alloc1 w _⟩
end Go.Proofs.YthhlpkppcbillaaDoor
