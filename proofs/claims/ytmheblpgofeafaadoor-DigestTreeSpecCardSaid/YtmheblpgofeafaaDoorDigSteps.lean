/- How long a path is: digest.steps. -/
import Derived.Test.YtmheblpgofeafaaDoorDigTree
namespace Go.Proofs.YtmheblpgofeafaaDoor
open Go.RowKit
set_option linter.unusedVariables false
set_option linter.unusedSimpArgs false

/-- how many steps an index has from the root of a list of n elements -/
inductive IsSteps : Nat → Nat → Nat → Prop
  | done (at' n : Nat) : n ≤ 1 → IsSteps at' n 0
  | left (at' n k c : Nat) : 1 < n → k = spN n → at' < k → IsSteps at' k c → IsSteps at' n (c + 1)
  | right (at' n k c : Nat) : 1 < n → k = spN n → k ≤ at' → IsSteps (at' - k) (n - k) c → IsSteps at' n (c + 1)
theorem IsSteps.le {at' n c : Nat} (h : IsSteps at' n c) : c ≤ n := by
  induction h with
  | done _ _ h => omega
  | left _ n k c h1 h2 _ _ ih => have := spN_lt h1; omega
  | right _ n k c h1 h2 _ _ ih => have := spN_lt h1; have := spN_pos n; omega
theorem IsSteps.inv {at' n c : Nat} (h : IsSteps at' n c) (hn : 1 < n) : ∃ k c', k = spN n ∧ c = c' + 1 ∧ 0 < k ∧ k < n ∧ ((at' < k ∧ IsSteps at' k c') ∨ (k ≤ at' ∧ IsSteps (at' - k) (n - k) c')) := by
  have h1 := spN_lt hn
  have h2 := spN_pos n
  cases h with
  | done _ _ h => omega
  | left _ _ k c' _ h4 h5 h6 => exact ⟨k, c', h4, rfl, by omega, by omega, .inl ⟨h5, h6⟩⟩
  | right _ _ k c' _ h4 h5 h6 => exact ⟨k, c', h4, rfl, by omega, by omega, .inr ⟨h5, h6⟩⟩
theorem IsSteps.inv0 {at' n c : Nat} (h : IsSteps at' n c) (hn : n ≤ 1) : c = 0 := by
  cases h with
  | done => rfl
  | left _ _ k c' h3 _ _ _ => omega
  | right _ _ k c' h3 _ _ _ => omega
theorem isSteps_ex (n : Nat) : ∀ at', ∃ c, IsSteps at' n c := by
  induction n using Nat.strongRecOn with
  | _ n ih =>
    intro at'
    by_cases h : 1 < n
    · have h1 := spN_lt h
      have h2 := spN_pos n
      by_cases h3 : at' < spN n
      · obtain ⟨c, hc⟩ := ih _ h1 at'
        exact ⟨_, .left _ _ _ c h rfl h3 hc⟩
      · obtain ⟨c, hc⟩ := ih (n - spN n) (by omega) (at' - spN n)
        exact ⟨_, .right _ _ _ c h rfl (by omega) hc⟩
    · exact ⟨0, .done _ _ (by omega)⟩

set_option maxRecDepth 100000 in
set_option maxHeartbeats 2000000 in
theorem steps_any (at' n c : Nat) (w : World) (hs : Hid (IsSteps at' n c)) (ha : at' < n) (hn : n ≤ 1099511627776) :
    Calls Tryd.prog 48 #[.int .i64 at', .int .i64 n] w fun e w' => e = .returned (.int .i64 c) ∧ w' = w := by
  have HC := Lib.hid hs.out.le
  go_enter Tryd.func48, Tryd.ntmps48
  go_wp2_with fail
  go_loop [0, 1, 5] (fun x y z => ∃ (A M : Nat) (C D : Nat), x = .int .i64 A ∧ y = .int .i64 M ∧ z = .int .i64 D ∧ Hid (IsSteps A M C) ∧ Hid (D + C = c) ∧ A < M ∧ M ≤ n) (fun _ y _ => (intOf y).toNat)
  case atStart => exact ⟨at', n, c, 0, rfl, rfl, rfl, hs, Lib.hid (by omega), ha, by omega⟩
  case round =>
    obtain ⟨A, M, C, D, rfl, rfl, rfl, hst, hcd, hA, hM⟩ := hrel
    by_cases h1 : 1 < M
    · obtain ⟨k, C', hk, hC, k0, k1, hside⟩ := hst.out.inv h1
      have HK := Lib.hid hk
      have HC' := Lib.hid hC
      clear hk hC
      go_wp2_with fail
      refine (split_any M _ h1 (by omega)).mono ?_; rintro e w' ⟨rfl, rfl⟩
      rw [← HK.out]
      have i9 : D ≤ 4611686018427387904 := by have := hcd.out; have := HC.out; omega
      rcases hside with ⟨h5, h6⟩ | ⟨h5, h6⟩
      · have H6 := Lib.hid h6
        clear h6
        go_wp2_with fail
        go_round
        case rel => exact ⟨A, k, C', D + 1, rfl, rfl, by simp, H6, Lib.hid (by have := hcd.out; have := HC'.out; omega), h5, by omega⟩
        case measure => simp [intOf]; omega
      · have H6 := Lib.hid h6
        clear h6
        go_wp2_with fail
        go_round
        case rel => exact ⟨A - k, M - k, C', D + 1, by simp; omega, by simp; omega, by simp, H6, Lib.hid (by have := hcd.out; have := HC'.out; omega), by omega, by omega⟩
        case measure => simp [intOf]; omega
    · obtain rfl : M = 1 := by omega
      have h2 := hst.out.inv0 (by omega)
      have h3 := hcd.out
      obtain rfl : D = c := by omega
      go_wp2_with fail
      go_ret
      exact ⟨rfl, rfl⟩
end Go.Proofs.YtmheblpgofeafaaDoor
