/- The reference: Departs. -/
import Derived.Test.YtilokkkodocoiaaCalPt
import Derived.Test.YtilokkkodocoiaaRegP
namespace Go.Proofs.Ytilokkkodocoiaa
open Go.RowKit
set_option linter.unusedVariables false
set_option linter.unusedSimpArgs false

theorem any_snoc {α : Type} {p : α → Bool} {l : List α} {x : α} {k : Nat} {d : α} (hk : k < l.length) (hx : l.getD k d = x) (h : (l.take k).any p = false) (h2 : p x = false) : (l.take (k + 1)).any p = false := by
  rw [take_snocZ (d := d) hk, hx, List.any_append, h]
  simp [h2]
theorem any_at {α : Type} {p : α → Bool} {l : List α} {x : α} {k : Nat} {d : α} (hk : k < l.length) (hx : l.getD k d = x) (h2 : p x = true) : l.any p = true :=
  List.any_eq_true.2 ⟨x, by rw [← hx]; exact getD_memZ hk, h2⟩
set_option maxRecDepth 100000 in
set_option maxHeartbeats 8000000 in
theorem rdep_is (p : Option Addr) (n c : Nat) (rs : List Rl) (q : Option Addr) (m d : Nat) (gs : List Gp) (t : Int) (v : Bool) (w : World) (hr : Hid (RulesV w p n c rs)) (hg : Hid (GapsV w q m d gs)) (hv : Hid (Valid rs gs)) (ht0 : 0 ≤ t) (ht1 : t ≤ 2097152) (hD : Hid (depB rs gs t = v)) :
    Calls Try.prog 17 #[.slice p n c, .slice q m d, .int .i64 t] w fun e w' => e = .returned (.bool v) ∧ Below w.heap.size w w' := by
  have hnc := hr.out.nc
  have hcm := hr.out.cm
  have hmd := hg.out.nc
  have hdm := hg.out.cm
  go_enter Try.func17, Try.ntmps17
  go_wp2_with fail
  go_loopw [7] (fun i wq => ∃ k : Nat, k ≤ m ∧ i = .int .i64 (k : Int) ∧ Hid ((gs.take k).any (gapB · t) = false) ∧ Hid (Below w.heap.size w wq)) (fun i _ => m - (intOf i).toNat)
  case atStart => exact ⟨0, by omega, by simp, Lib.hid (by simp), Lib.hid (Below.refl _ w)⟩
  case round =>
    obtain ⟨k, hk, rfl, HA, HB⟩ := hrel
    rename World => wr
    by_cases hlt : k < m
    · obtain ⟨b, off, hp, hb, d0, d1⟩ := (hg.out.below HB.out).at hlt
      have hgl : k < gs.length := by have := hg.out.len; omega
      obtain ⟨g, hgx⟩ : ∃ g, gs.getD k gp0 = g := ⟨_, rfl⟩
      rw [hgx] at d0 d1
      have HGX := Lib.hid hgx
      clear hgx
      obtain ⟨g1, g2⟩ := g
      dsimp only at d0 d1
      subst hp
      by_cases h1 : g1 ≤ t
      · have t1 : decide (g1 ≤ t) = true := decide_eq_true h1
        by_cases h2 : t < g2
        · have t2 : decide (t < g2) = true := decide_eq_true h2
          have HV := Lib.hid (show v = false by
            rw [← hD.out]; unfold depB; rw [any_at hgl HGX.out (show gapB (g1, g2) t = true by unfold gapB; simp; omega)]; rfl)
          go_wp2_with fail
          go_ret
          rw [HV.out]
          exact ⟨rfl, HB.out⟩
        · have t2 : decide (t < g2) = false := decide_eq_false h2
          have HA2 := Lib.hid (any_snoc (p := (gapB · t)) hgl HGX.out HA.out (show gapB (g1, g2) t = false by unfold gapB; simp; omega))
          go_wp2_with fail
          go_roundw
          case rel => exact ⟨k + 1, by omega, by simp, HA2, HB⟩
          case measure => simp [intOf]; omega
      · have t1 : decide (g1 ≤ t) = false := decide_eq_false h1
        have HA2 := Lib.hid (any_snoc (p := (gapB · t)) hgl HGX.out HA.out (show gapB (g1, g2) t = false by unfold gapB; simp; omega))
        go_wp2_with fail
        go_roundw
        case rel => exact ⟨k + 1, by omega, by simp, HA2, HB⟩
        case measure => simp [intOf]; omega
    · have HG := Lib.hid (show gs.any (gapB · t) = false by have h := HA.out; rwa [List.take_of_length_le (by have := hg.out.len; omega)] at h)
      have hd : decide ((k : Int) < (m : Int)) = false := decide_eq_false (by omega)
      clear HA
      go_wp2_with fail
      go_loopw [8] (fun i wq => ∃ k : Nat, k ≤ n ∧ i = .int .i64 (k : Int) ∧ Hid ((rs.take k).any (hitB · t) = false) ∧ Hid (Below w.heap.size w wq)) (fun i _ => n - (intOf i).toNat)
      case atStart => exact ⟨0, by omega, by simp, Lib.hid (by simp), HB⟩
      case round =>
        clear HB hd
        obtain ⟨j, hj, rfl, HA, HB⟩ := hrel
        rename World => wq
        by_cases hjn : j < n
        · obtain ⟨b, off, hp, hb, d0, d1, d2⟩ := (hr.out.below HB.out).at hjn
          have hkl : j < rs.length := by have := hr.out.len; omega
          obtain ⟨x, hx⟩ : ∃ x, rs.getD j rl0 = x := ⟨_, rfl⟩
          have hok : okR x = true := by rw [← hx]; exact hv.out.r _ (getD_memZ hkl)
          rw [hx] at d0 d1 d2
          have HX := Lib.hid hx
          clear hx
          obtain ⟨x1, x2, x3⟩ := x
          dsimp only at d0 d1 d2
          subst hp
          obtain ⟨⟨o1, o2, o3⟩, o4, o5⟩ := okR_iff.1 hok
          dsimp only at o1 o2 o3 o4 o5
          clear hok
          have d3 : ¬ x3 = 0 := by omega
          go_upto_region 10 with fail
          have KB := Lib.hid (Blk.new wq #[.int .i64 x1, .int .i64 x2, .int .i64 x3] 40)
          have B3 := Lib.hid (show Below w.heap.size w (wq.alloc (.cells #[.int .i64 x1, .int .i64 x2, .int .i64 x3] 40)) from HB.out.alloc HB.out.size _)
          clear d0 d1 d2 HB
          generalize World.alloc wq _ = wz at KB B3 ⊢
          have c0 : wz.cell? ⟨wq.heap.size, 0, none⟩ = some (.int .i64 x1) := KB.out.cell 0
          have c1 : wz.cell? ⟨wq.heap.size, 1, none⟩ = some (.int .i64 x2) := KB.out.cell 1
          have c2 : wz.cell? ⟨wq.heap.size, 2, none⟩ = some (.int .i64 x3) := KB.out.cell 2
          have NO : hitB (x1, x2, x3) t = false → Hid ((rs.take (j + 1)).any (hitB · t) = false) := fun h => Lib.hid (any_snoc (p := (hitB · t)) hkl HX.out HA.out h)
          have NOH := Lib.hid NO
          clear NO
          by_cases h1 : x1 ≤ t
          · have t1 : decide (x1 ≤ t) = true := decide_eq_true h1
            by_cases h2 : t < x2
            · have t2 : decide (t < x2) = true := decide_eq_true h2
              have hw : IntKind.i64.wrap (t - x1) = t - x1 := by rw [IntKind.wrap_i64]; omega
              have hm : Int.tmod (t - x1) x3 = (t - x1) % x3 := Int.tmod_eq_emod_of_nonneg (by omega)
              have hm0 : 0 ≤ (t - x1) % x3 ∧ (t - x1) % x3 < x3 := ⟨Int.emod_nonneg _ d3, Int.emod_lt_of_pos _ (by omega)⟩
              obtain ⟨y, hy⟩ : ∃ y, (t - x1) % x3 = y := ⟨_, rfl⟩
              rw [hy] at hm hm0
              have HY := Lib.hid hy
              clear hy
              have hwy : IntKind.i64.wrap y = y := by rw [IntKind.wrap_i64]; omega
              by_cases h3 : y = 0
              · subst h3
                have HV := Lib.hid (show v = true by
                  rw [← hD.out]; unfold depB; rw [HG.out, any_at hkl HX.out (show hitB (x1, x2, x3) t = true by unfold hitB; simp only [HY.out]; simp; omega)]; rfl)
                go_wp2_with fail
                go_ret
                rw [HV.out]
                exact ⟨rfl, B3.out⟩
              · have t3 : decide (y = 0) = false := decide_eq_false h3
                have t4 : (y == 0) = false := by simpa using h3
                have HA2 := NOH.out (by unfold hitB; simp only [HY.out]; rw [t3, Bool.and_false])
                go_wp2_with fail
                go_roundw
                case rel => exact ⟨j + 1, by omega, by simp, HA2, B3⟩
                case measure => simp [intOf]; omega
            · have t2 : decide (t < x2) = false := decide_eq_false h2
              have HA2 := NOH.out (by unfold hitB; simp; omega)
              go_wp2_with fail
              go_roundw
              case rel => exact ⟨j + 1, by omega, by simp, HA2, B3⟩
              case measure => simp [intOf]; omega
          · have t1 : decide (x1 ≤ t) = false := decide_eq_false h1
            have HA2 := NOH.out (by unfold hitB; simp; omega)
            go_wp2_with fail
            go_roundw
            case rel => exact ⟨j + 1, by omega, by simp, HA2, B3⟩
            case measure => simp [intOf]; omega
        · have HR := Lib.hid (show v = false by
            have h := HA.out
            rw [List.take_of_length_le (by have := hr.out.len; omega)] at h
            rw [← hD.out]; unfold depB; rw [h, HG.out]; rfl)
          have hd : decide ((j : Int) < (n : Int)) = false := decide_eq_false (by omega)
          go_wp2_with fail
          go_ret
          rw [HR.out]
          exact ⟨rfl, HB.out⟩
end Go.Proofs.Ytilokkkodocoiaa
