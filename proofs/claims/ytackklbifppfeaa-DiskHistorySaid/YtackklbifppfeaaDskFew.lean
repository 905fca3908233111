/- Few ends with a truth value, whatever the disk (the sum may wrap: nothing hangs on it). -/
import Derived.Test.YtackklbifppfeaaDsk
namespace Go.Proofs.Ytackklbifppfeaa
open Go.RowKit
set_option linter.unusedVariables false

/-- a truth value -/
def IsTruth (e : Ending) : Prop := ∃ q, e = .returned (.bool q)
theorem isTruth (q : Bool) : IsTruth (.returned (.bool q)) := ⟨q, rfl⟩
set_option maxRecDepth 100000 in
set_option maxHeartbeats 2000000 in
theorem few_any (ps : Option Addr) (ns cs : Nat) (pp : Option Addr) (np cp : Nat) (left : Int) (st : Bool) (rs : List Rw) (ws : List Wt) (w : World) (hz : Hid (DskV w ps ns pp np left rs ws)) :
    Calls Try.prog 11 #[.agg (dskC ps ns cs pp np cp left st)] w fun e w' => IsTruth e ∧ Below w.heap.size w w' := by
  have m1 := hz.out.1.2.1; have m2 := hz.out.2.1.2.1
  have h1 := Lib.hid (bel_alloc1 w (.cells (dskC ps ns cs pp np cp left st) 25))
  go_enter Try.func11, Try.ntmps11
  go_wp2_with fail
  go_loop [3, 4] (fun s i => ∃ (k : Nat) (n : Int), k ≤ ns ∧ i = .int .i64 k ∧ s = .int .i64 n) (fun s i => ns - (intOf i).toNat)
  case atStart => exact ⟨0, 0, by omega, rfl, rfl⟩
  case round =>
    obtain ⟨k, n, hk, rfl, rfl⟩ := hrel
    by_cases hlt : k < ns
    · by_cases hn : n ≤ 9000
      · obtain ⟨b', off, hp, hb', hcell, hrw⟩ := (hz.out.1.below h1.out).at hlt
        subst hp
        obtain ⟨⟨pr, mr, cr, br⟩, hx⟩ : ∃ x, rs.getD k rw0 = x := ⟨_, rfl⟩
        rw [hx] at hcell
        dsimp only [Rw.v] at hcell
        clear hx hrw
        go_wp2_with fail
        go_round
        case rel => exact ⟨k + 1, _, by omega, by go_num, rfl⟩
        case measure => simp [intOf]; omega
      · go_wp2_with fail
        go_loop [3, 5] (fun s i => ∃ (k : Nat) (n : Int), k ≤ np ∧ i = .int .i64 k ∧ s = .int .i64 n) (fun s i => np - (intOf i).toNat)
        case atStart => exact ⟨0, _, by omega, rfl, rfl⟩
        case round =>
          obtain ⟨k, n, hk, rfl, rfl⟩ := hrel
          by_cases hlt : k < np
          · by_cases hn : n ≤ 9000
            · obtain ⟨b', off, hp, hb', hcell, hcell2, hrw⟩ := (hz.out.2.1.below h1.out).at hlt
              subst hp
              obtain ⟨⟨at_, pr, mr, cr, br⟩, hx⟩ : ∃ x, ws.getD k wt0 = x := ⟨_, rfl⟩
              rw [hx] at hcell hcell2
              dsimp only [Rw.v] at hcell hcell2
              clear hx hrw
              go_wp2_with fail
              go_round
              case rel => exact ⟨k + 1, _, by omega, by go_num, rfl⟩
              case measure => simp [intOf]; omega
            · go_wp2_with fail
              go_ret
              exact ⟨isTruth _, h1.out⟩
          · go_wp2_with fail
            go_ret
            exact ⟨isTruth _, h1.out⟩
    · go_wp2_with fail
      go_loop [3, 5] (fun s i => ∃ (k : Nat) (n : Int), k ≤ np ∧ i = .int .i64 k ∧ s = .int .i64 n) (fun s i => np - (intOf i).toNat)
      case atStart => exact ⟨0, _, by omega, rfl, rfl⟩
      case round =>
        obtain ⟨k, n, hk, rfl, rfl⟩ := hrel
        by_cases hlt : k < np
        · by_cases hn : n ≤ 9000
          · obtain ⟨b', off, hp, hb', hcell, hcell2, hrw⟩ := (hz.out.2.1.below h1.out).at hlt
            subst hp
            obtain ⟨⟨at_, pr, mr, cr, br⟩, hx⟩ : ∃ x, ws.getD k wt0 = x := ⟨_, rfl⟩
            rw [hx] at hcell hcell2
            dsimp only [Rw.v] at hcell hcell2
            clear hx hrw
            go_wp2_with fail
            go_round
            case rel => exact ⟨k + 1, _, by omega, by go_num, rfl⟩
            case measure => simp [intOf]; omega
          · go_wp2_with fail
            go_ret
            exact ⟨isTruth _, h1.out⟩
        · go_wp2_with fail
          go_ret
          exact ⟨isTruth _, h1.out⟩
end Go.Proofs.Ytackklbifppfeaa
