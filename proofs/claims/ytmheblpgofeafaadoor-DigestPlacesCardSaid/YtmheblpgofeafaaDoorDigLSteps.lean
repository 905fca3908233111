/- The steps of an index, as the laws of layer 2 count them. -/
import Derived.Test.YtmheblpgofeafaaDoorDigSteps
import Derived.Test.YtmheblpgofeafaaDoorDigDet
namespace Go.Proofs.YtmheblpgofeafaaDoor
open Go.RowKit
set_option linter.unusedVariables false
set_option linter.unusedSimpArgs false

set_option maxRecDepth 100000 in
set_option maxHeartbeats 4000000 in
theorem lsteps_any (at' n c : Nat) (w : World) (hs : Hid (IsSteps at' n c)) (ha : at' < n) (hn : n ≤ 1099511627776) :
    Calls Tryd.prog 26 #[.int .i64 at', .int .i64 n] w fun e w' => e = .returned (.int .i64 c) ∧ w' = w := by
  have HC := Lib.hid hs.out.le
  go_enter Tryd.func26, Tryd.ntmps26
  go_wp2_with fail
  go_loop [0, 1, 5] (fun x y z => ∃ (A M : Nat) (C D : Nat), x = .int .i64 A ∧ y = .int .i64 M ∧ z = .int .i64 D ∧ Hid (IsSteps A M C) ∧ Hid (D + C = c) ∧ A < M ∧ M ≤ n) (fun _ y _ => (intOf y).toNat)
  case atStart => exact ⟨at', n, c, 0, rfl, rfl, rfl, hs, Lib.hid (by omega), ha, by omega⟩
  case round =>
    obtain ⟨A, M, C, D, rfl, rfl, rfl, hst, hcd, hA, hM⟩ := hrel
    by_cases h1 : 1 < M
    · obtain ⟨k, C', hk, hC, k0, k1, hside⟩ := hst.out.inv h1
      have HK := Lib.hid hk
      have HC' := Lib.hid hC
      have HS := Lib.hid hside
      clear hk hC hside
      have i9 : D ≤ 4611686018427387904 := by have := hcd.out; have := HC.out; omega
      go_wp2_with fail
      go_loop [6] (fun x => ∃ (kk j : Nat), x = .int .i64 kk ∧ Hid (kk = 2 ^ j) ∧ kk < M ∧ 0 < kk) (fun x => M - (intOf x).toNat)
      case atStart => exact ⟨1, 0, rfl, Lib.hid rfl, by omega, by omega⟩
      case round =>
        obtain ⟨kk, j, rfl, hkj, hkn, hkp⟩ := hrel
        by_cases hlt : 2 * kk < M
        · go_wp2_with fail
          go_round
          case rel => exact ⟨kk * 2, j + 1, by go_num, Lib.hid (by rw [Nat.pow_succ, hkj.out]), by omega, by omega⟩
          case measure => simp [intOf]; omega
        · have hks : kk = k := by rw [HK.out]; exact spN_uniq h1 hkj.out hkn (by omega)
          subst hks
          clear hkj HK
          by_cases h5 : A < kk
          · have H6 : Hid (IsSteps A kk C') := Lib.hid (by rcases HS.out with ⟨_, h⟩ | ⟨h, _⟩; exact h; omega)
            clear HS
            go_wp2_with fail
            go_round
            case rel => exact ⟨A, kk, C', D + 1, rfl, rfl, by go_num, H6, Lib.hid (by have := hcd.out; have := HC'.out; omega), h5, by omega⟩
            case measure => simp [intOf]; omega
          · have H6 : Hid (IsSteps (A - kk) (M - kk) C') := Lib.hid (by rcases HS.out with ⟨h, _⟩ | ⟨_, h⟩; omega; exact h)
            clear HS
            go_wp2_with fail
            go_round
            case rel => exact ⟨A - kk, M - kk, C', D + 1, by simp; omega, by simp; omega, by go_num, H6, Lib.hid (by have := hcd.out; have := HC'.out; omega), by omega, by omega⟩
            case measure => simp [intOf]; omega
    · obtain rfl : M = 1 := by omega
      have h2 := hst.out.inv0 (by omega)
      have h3 := hcd.out
      obtain rfl : D = c := by omega
      go_wp2_with fail
      go_ret
      exact ⟨rfl, rfl⟩
end Go.Proofs.YtmheblpgofeafaaDoor
