/- group.Valid returns whether its argument is an element of the group, for every int. -/
import Derived.Test.YtpjobllfiimdkaaGreatDoorProg
import Derived.WalkKit
import Derived.WalkSpells
import Derived.Lib.Hide
import Derived.Outline
import Derived.Test.YtpjobllfiimdkaaGreatDoorMath
namespace Go.Proofs.YtpjobllfiimdkaaGreatDoor
open Go.RowKit
set_option linter.unusedVariables false

/-- is a number an element -/
def elB (x : Int) : Bool := M.isEl x.toNat

theorem elB_low {x : Int} (h : x < 1) : elB x = false := by
  unfold elB M.isEl; rw [decide_eq_false_iff_not]; omega
theorem elB_high {x : Int} (h : 2147483579 ≤ x) : elB x = false := by
  unfold elB M.isEl; rw [decide_eq_false_iff_not]; have : M.P = 2147483579 := rfl; omega

set_option maxHeartbeats 400000 in
theorem valid_low (x : Int) (w : World) (h1 : x < 1) :
    Calls Tryz.prog 25 #[.int .i64 x] w fun e w' => e = .returned (.bool (elB x)) ∧ w = w' := by
  have H := Lib.hid (elB_low h1)
  go_enter Tryz.func25, Tryz.ntmps25
  go_wp2
  go_step3
  go_wp2
  rw [Exit.noGoto_ret]
  go_ret
  rw [H.out]; exact ⟨rfl, rfl⟩

set_option maxHeartbeats 400000 in
theorem valid_high (x : Int) (w : World) (h1 : 2147483579 ≤ x) :
    Calls Tryz.prog 25 #[.int .i64 x] w fun e w' => e = .returned (.bool (elB x)) ∧ w = w' := by
  have H := Lib.hid (elB_high h1)
  have h2 : ¬ x < 1 := by omega
  go_enter Tryz.func25, Tryz.ntmps25
  go_wp2
  go_step3
  go_wp2
  rw [Exit.noGoto_ret]
  go_ret
  rw [H.out]; exact ⟨rfl, rfl⟩

/-- what the loop keeps: it has come from x0 modulo P to x modulo m -/
def Keeps (x0 x m : Int) (s : Bool) : Prop :=
  ∃ h : Nat, m.toNat = 2 * h + 1 ∧ Nat.Coprime x.toNat (2 * h + 1) ∧ s = M.flag x0.toNat h x.toNat

theorem keeps_start {x : Int} (h1 : 1 ≤ x) (h2 : x < 2147483579) : Keeps x x 2147483579 true :=
  ⟨M.Q, rfl, M.coP (by omega) (by have : M.P = 2147483579 := rfl; omega), (M.flag_start _).symm⟩

theorem keeps_end {x0 m : Int} {s : Bool} (h1 : 1 ≤ x0) (h2 : x0 < 2147483579) (h : Keeps x0 1 m s) : s = elB x0 := by
  obtain ⟨k, _, _, rfl⟩ := h
  exact M.flag_end (by omega) (by have : M.P = 2147483579 := rfl; omega)

theorem keeps_even_flip {x0 x m : Int} {s : Bool} (hx : 1 < x) (hm : 1 < m) (he : x % 2 = 0) (h8 : m % 8 = 3 ∨ m % 8 = 5) (h : Keeps x0 x m s) : Keeps x0 (x / 2) m (!s) := by
  obtain ⟨k, e, c, rfl⟩ := h
  have ex : x.toNat = 2 * (x / 2).toNat := by omega
  rw [ex] at c ⊢
  refine ⟨k, e, M.co_half c, ?_⟩
  rw [M.flag_even c, if_pos (by omega)]

theorem keeps_even {x0 x m : Int} {s : Bool} (hx : 1 < x) (hm : 1 < m) (he : x % 2 = 0) (h8 : m % 8 ≠ 3 ∧ m % 8 ≠ 5) (h : Keeps x0 x m s) : Keeps x0 (x / 2) m s := by
  obtain ⟨k, e, c, rfl⟩ := h
  have ex : x.toNat = 2 * (x / 2).toNat := by omega
  rw [ex] at c ⊢
  refine ⟨k, e, M.co_half c, ?_⟩
  rw [M.flag_even c, if_neg (by omega)]

theorem toNat_mod {m x : Int} (hm : 0 ≤ m) (hx : 0 ≤ x) : (m % x).toNat = m.toNat % x.toNat := by
  obtain ⟨a, rfl⟩ := Int.eq_ofNat_of_zero_le hm
  obtain ⟨b, rfl⟩ := Int.eq_ofNat_of_zero_le hx
  rw [← Int.natCast_emod]; rfl

theorem keeps_odd {x0 x m : Int} {s : Bool} (hx : 1 < x) (hm : 1 < m) (ho : x % 2 ≠ 0) (h : Keeps x0 x m s) :
    Keeps x0 (m % x) x (if x % 4 = 3 ∧ m % 4 = 3 then !s else s) ∧ 1 ≤ m % x ∧ m % x < x := by
  obtain ⟨k, e, c, rfl⟩ := h
  obtain ⟨g, hg⟩ : ∃ g : Nat, x.toNat = 2 * g + 1 := ⟨(x.toNat - 1) / 2, by omega⟩
  have hn := M.co_next c (by omega)
  have hmod : (m % x).toNat = m.toNat % x.toNat := toNat_mod (by omega) (by omega)
  have hlt := Int.emod_lt_of_pos m (show 0 < x by omega)
  refine ⟨⟨g, hg, ?_, ?_⟩, ?_, hlt⟩
  · rw [hmod, e, ← hg]; exact hn.1
  · rw [hmod, e, hg, M.flag_odd (by rw [← hg]; exact c)]
    by_cases b : x % 4 = 3 ∧ m % 4 = 3
    · rw [if_pos b, if_pos (by omega)]
    · rw [if_neg b, if_neg (by omega)]
  · have := hn.2; rw [e] at hmod; omega

set_option maxRecDepth 100000 in
set_option maxHeartbeats 400000 in
theorem valid_mid (x0 : Int) (w : World) (h1 : 1 ≤ x0) (h2 : x0 < 2147483579) :
    Calls Tryz.prog 25 #[.int .i64 x0] w fun e w' => e = .returned (.bool (elB x0)) ∧ w = w' := by
  go_enter Tryz.func25, Tryz.ntmps25
  go_wp2
  go_step3
  go_wp2
  go_step3
  go_wp2
  go_loop [0, 3, 4] (fun x m s => ∃ (x' m' : Int) (b : Bool), x = .int .i64 x' ∧ m = .int .i64 m' ∧ s = .bool b ∧ 1 ≤ x' ∧ x' < m' ∧ m' ≤ 2147483579 ∧ Keeps x0 x' m' b) (fun x _ _ => (intOf x).toNat)
  case atStart => exact ⟨x0, 2147483579, true, rfl, rfl, rfl, h1, h2, Int.le_refl _, keeps_start h1 h2⟩
  case round =>
    obtain ⟨x, m, b, rfl, rfl, rfl, hx1, hxm, hm, hk⟩ := hrel
    by_cases hx : 1 < x
    · have hm1 : 1 < m := by omega
      by_cases he : x % 2 = 0
      · have heB : (x % 2 == 0) = true := by simp [he]
        by_cases h83 : m % 8 = 3
        · have hk' := keeps_even_flip hx hm1 he (.inl h83) hk
          have h8B : (m % 8 == 3) = true := by simp [h83]
          clear he h83
          go_wp2
          go_round
          case rel => exact ⟨x / 2, m, !b, rfl, rfl, rfl, by omega, by omega, hm, hk'⟩
          case measure => simp [intOf]; omega
        · have h8B : (m % 8 == 3) = false := by simp [h83]
          by_cases h85 : m % 8 = 5
          · have hk' := keeps_even_flip hx hm1 he (.inr h85) hk
            have h85B : (m % 8 == 5) = true := by simp [h85]
            clear he h83 h85
            go_wp2
            go_round
            case rel => exact ⟨x / 2, m, !b, rfl, rfl, rfl, by omega, by omega, hm, hk'⟩
            case measure => simp [intOf]; omega
          · have hk' := keeps_even hx hm1 he ⟨h83, h85⟩ hk
            have h85B : (m % 8 == 5) = false := by simp [h85]
            clear he h83 h85
            go_wp2
            go_round
            case rel => exact ⟨x / 2, m, b, rfl, rfl, rfl, by omega, by omega, hm, hk'⟩
            case measure => simp [intOf]; omega
      · have heB : (x % 2 == 0) = false := by simp [he]
        obtain ⟨hk', hn1, hn2⟩ := keeps_odd hx hm1 he hk
        clear he
        by_cases hx4 : x % 4 = 3
        · have hx4B : (x % 4 == 3) = true := by simp [hx4]
          by_cases hm4 : m % 4 = 3
          · have hm4B : (m % 4 == 3) = true := by simp [hm4]
            rw [if_pos ⟨hx4, hm4⟩] at hk'
            clear hx4 hm4
            go_wp2
            go_round
            case rel => exact ⟨m % x, x, !b, rfl, rfl, rfl, hn1, hn2, by omega, hk'⟩
            case measure => simp [intOf]; omega
          · have hm4B : (m % 4 == 3) = false := by simp [hm4]
            rw [if_neg (fun h => hm4 h.2)] at hk'
            clear hx4 hm4
            go_wp2
            go_round
            case rel => exact ⟨m % x, x, b, rfl, rfl, rfl, hn1, hn2, by omega, hk'⟩
            case measure => simp [intOf]; omega
        · have hx4B : (x % 4 == 3) = false := by simp [hx4]
          rw [if_neg (fun h => hx4 h.1)] at hk'
          clear hx4
          go_wp2
          go_round
          case rel => exact ⟨m % x, x, b, rfl, rfl, rfl, hn1, hn2, by omega, hk'⟩
          case measure => simp [intOf]; omega
    · obtain rfl : x = 1 := by omega
      obtain rfl := keeps_end h1 h2 hk
      go_wp2
      try rw [Exit.noGoto_ret]
      go_ret
      exact ⟨rfl, rfl⟩

/-- **group.Valid, at every int** -/
theorem valid_any (x : Int) (w : World) :
    Calls Tryz.prog 25 #[.int .i64 x] w fun e w' => e = .returned (.bool (elB x)) ∧ w = w' := by
  by_cases h1 : x < 1
  · exact valid_low x w h1
  · by_cases h2 : x < 2147483579
    · exact valid_mid x w (by omega) h2
    · exact valid_high x w (by omega)

end Go.Proofs.YtpjobllfiimdkaaGreatDoor
