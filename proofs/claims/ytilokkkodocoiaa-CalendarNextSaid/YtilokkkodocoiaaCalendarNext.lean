/- CalendarNext: Next takes one from moment to moment. No condition. -/
import Derived.Test.YtilokkkodocoiaaCalPt
import Derived.Deep.DeepCutAuto
namespace Go.Proofs.Ytilokkkodocoiaa
open Go.ChangeShapes Go.WideShapes Go.ChangeAt Go.RowKit Go.WideElems
set_option linter.unusedVariables false
set_option linter.unusedSimpArgs false

set_option maxRecDepth 100000 in
set_option maxHeartbeats 4000000 in
theorem calendarNext_walk (p : Option Addr) (n c : Nat) (rs : List Rl) (q : Option Addr) (m d : Nat) (gs : List Gp) (a b : Int) (w : World) (hr : Hid (RulesV w p n c rs)) (hg : Hid (GapsV w q m d gs)) : Calls Try.prog 7 #[.slice p n c, .slice q m d, .int .i64 a, .int .i64 b] w fun e w' => e = .returned (.bool true) ∧ Below w.heap.size w w' := by
  go_enter Try.func7, Try.ntmps7
  have B0 := Lib.hid (Below.refl w.heap.size w)
  have R0 := hr
  have G0 := hg
  clear hr hg
  go_upto_region 3 with (go_at_call 9; (with_reducible refine (sane19_any w).mono ?_); rintro e w1 ⟨rfl, hb⟩; have B1 := Lib.hid (bel_trans B0.out hb); have R1 := Lib.hid (R0.out.below hb); have G1 := Lib.hid (G0.out.below hb); clear hb)
  clear R0 G0 B0
  obtain ⟨E, hE⟩ := named (momE rs gs a b)
  obtain ⟨L, hL⟩ := named (momR rs gs a b)
  have HN : L.length ≤ 2000 := by rw [← hL.out]; exact momR_len
  go_upto_region 4 with (go_at_call 10; (with_reducible refine (cmom_ah p n c rs q m d gs a b w1 R1 G1 E L hE hL).mono ?_); rintro e w2 ⟨v2, rfl, ho, hb⟩; have B2 := Lib.hid (bel_trans B1.out hb); have R2 := Lib.hid (R1.out.below hb); have G2 := Lib.hid (G1.out.below hb); have O2 := ho; clear ho; clear hb)
  clear R1 G1 B1
  obtain ⟨pl, cl, hvl, hl2⟩ := ownI_ints O2
  subst hvl
  have L2 := Lib.hid hl2
  have hcl := hl2.nc
  have hcm := hl2.cm
  clear hl2 O2
  by_cases hE0 : E = 0
  case neg =>
    have d0 : decide (E = 0) = false := decide_eq_false hE0
    have d1 : (E == 0) = false := by simpa using hE0
    have d2 : (E != 0) = true := by simpa using hE0
    go_wp2_with fail
    go_ret
    exact ⟨rfl, B2.out⟩
  case pos =>
    subst hE0
    have d0 : decide ((2000 : Int) < (L.length : Int)) = false := decide_eq_false (by omega)
    have HS := Lib.hid (nxI_start hE.out)
    have HR := Lib.hid (fun (k : Nat) (t x : Int) (hI : NxI rs gs a b k t) (hk : k < L.length) (hx : L.getD k 0 = x) => nx_round (x := x) hE.out hI (by rw [hL.out]; exact hk) (by rw [hL.out]; exact hx))
    have HE := Lib.hid (fun (t : Int) (hI : NxI rs gs a b L.length t) => nx_last hE.out (by rw [hL.out]; exact hI))
    go_wp2_with fail
    go_loopw [11, 12] (fun at' i wr => ∃ (k : Nat) (t : Int), k ≤ L.length ∧ at' = .int .i64 t ∧ i = .int .i64 (k : Int) ∧ Hid (NxI rs gs a b k t) ∧ Hid (Below w.heap.size w wr) ∧ Hid (Below w2.heap.size w2 wr)) (fun _ i _ => L.length - (intOf i).toNat)
    case atStart => exact ⟨0, a, by omega, rfl, by simp, HS, B2, Lib.hid (Below.refl _ _)⟩
    case round =>
      obtain ⟨k, t, hk, rfl, rfl, HI, HB, HC⟩ := hrel
      rename World => wr
      have RR := Lib.hid (R2.out.below HC.out)
      have GR := Lib.hid (G2.out.below HC.out)
      have LR := Lib.hid (L2.out.below HC.out)
      by_cases hlt : k < L.length
      · have d3 : decide ((k : Int) < (L.length : Int)) = true := decide_eq_true (by omega)
        obtain ⟨x, hx⟩ : ∃ x, L.getD k 0 = x := ⟨_, rfl⟩
        obtain ⟨f1, f2, f3, f4, f5, f6⟩ := HR.out k t x HI.out hlt hx
        have F1 := Lib.hid f1
        have F2 := Lib.hid f2
        have F3 := Lib.hid f3
        have F4 := Lib.hid f4
        have HX := Lib.hid hx
        have hw1 : IntKind.i64.wrap (x + 1) = x + 1 := by rw [IntKind.wrap_i64]; omega
        have hw2 : IntKind.i64.wrap ((k : Int) + 1) = (k : Int) + 1 := by rw [IntKind.wrap_i64]; omega
        clear f1 f2 f3 f4 hx
        go_upto_region 13 with (go_at_call 15; (with_reducible refine (cnxt_ah p n c rs q m d gs t wr RR GR x true 0 F3 F2 F1).mono ?_); rintro e w4 ⟨rfl, hb⟩; have B4 := Lib.hid (bel_trans HB.out hb); have C4 := Lib.hid (bel_trans HC.out hb); have L4 := Lib.hid (LR.out.below hb); clear hb)
        obtain ⟨lb, lo, hlp, hlb, cx⟩ := L4.out.at hlt
        rw [HX.out] at cx
        subst hlp
        go_wp2_with fail
        go_roundw
        case rel => exact ⟨k + 1, x + 1, by omega, rfl, by simp, F4, B4, C4⟩
        case measure => simp [intOf]; omega
      · have d3 : decide ((k : Int) < (L.length : Int)) = false := decide_eq_false (by omega)
        have hkn : k = L.length := by omega
        subst hkn
        obtain ⟨f1, f2⟩ := HE.out t HI.out
        have F1 := Lib.hid f1
        clear f1
        obtain ⟨x, hx⟩ := named (nxtM rs gs t)
        rcases f2 with ⟨f3, f4⟩ | ⟨f3, f4⟩
        · have F3 := Lib.hid f3
          rw [hx.out] at f4
          have d4 : decide (b ≤ x) = true := decide_eq_true f4
          clear f3
          go_wp2_with (go_at_call 15; (with_reducible refine (cnxt_ah p n c rs q m d gs t wr RR GR x true 0 hx F3 F1).mono ?_); rintro e w4 ⟨rfl, hb⟩; have B4 := Lib.hid (bel_trans HB.out hb); clear hb)
          go_ret
          exact ⟨rfl, B4.out⟩
        · have F3 := Lib.hid f3
          rw [hx.out] at f4
          subst f4
          clear f3
          go_wp2_with (go_at_call 15; (with_reducible refine (cnxt_ah p n c rs q m d gs t wr RR GR 0 false 0 hx F3 F1).mono ?_); rintro e w4 ⟨rfl, hb⟩; have B4 := Lib.hid (bel_trans HB.out hb); clear hb)
          go_ret
          exact ⟨rfl, B4.out⟩

namespace calendarNext
theorem readable : ∀ t ∈ Try.f7.params.toList, Try.prog.readableRec t = true ∧ t < Try.prog.types.size := by
  rw [Try.params7]
  intro t ht
  simp only [List.mem_cons, List.not_mem_nil, or_false] at ht
  rcases ht with rfl | rfl | rfl | rfl
  all_goals exact ⟨by kernel_rfl, by decide +kernel⟩

set_option maxRecDepth 100000 in
theorem lifted (os : Os) (started : os.Started) (H : Type) (enc : TypeId × Value → H) :
    ReturnsInHanded {} Try.checked os 7 .any (Rows.calendarNextSpec.pre6 enc Try.prog Try.f7 Rows.calendarNextRow.domain false) (Rows.calendarNextSpec.post enc Try.prog Try.f7 false true false false) := by
  refine returnsInHanded_of_change (C := Try.checked) own_knob started (by kernel_rfl) Try.func7
    (ChangeSpec.witness6 (enc := enc) (C := Try.checked) false ⟨#[], #[.slice none 0 0, .slice none 0 0, .int .i64 0, .int .i64 0], []⟩ 8 (by kernel_rfl) (by kernel_rfl) (by kernel_rfl) (by kernel_rfl)) ?_
  intro W base args ds gs before hval0 hW hcnd _
  have hval : ∀ (j : Nat) t v, Try.f7.params[j]? = some t → args[j]? = some v → Value.okWide Try.prog W .any base t v := hval0
  have hW' := hW
  obtain ⟨p, q, hA0, hV, rfl, hfz, hnd⟩ := hW
  have hA : DataW.TrodAll enc Try.prog W 0 (fun _ => true) true Try.f7.params.toList args.toList ds p := hA0
  rw [Try.params7] at hA hval
  obtain ⟨v0, vs0, d0, ds0, p0, q0, hargs, rfl, rfl, h0, r0⟩ := trodAll_cons hA
  obtain ⟨v1, vs1, d1, ds1, p1, q1, rfl, rfl, rfl, h1, r1⟩ := trodAll_cons r0
  obtain ⟨v2, vs2, d2, ds2, p2, q2, rfl, rfl, rfl, h2, r2⟩ := trodAll_cons r1
  obtain ⟨v3, vs3, d3, ds3, p3, q3, rfl, rfl, rfl, h3, r3⟩ := trodAll_cons r2
  obtain ⟨rfl, rfl, rfl⟩ := trodAll_nil r3
  obtain rfl : args = #[v0, v1, v2, v3] := by cases args; simp_all
  obtain ⟨rfl, rfl⟩ := trodVars_none hV
  obtain ⟨p0, n0, c0, l0, rfl, hk0⟩ := open_rules (hval 0 22 v0 rfl rfl) h0
  obtain ⟨p1, n1, c1, l1, rfl, hk1⟩ := open_gaps (hval 1 23 v1 rfl rfl) h1
  obtain ⟨a2, rfl, rfl, rfl, w2⟩ := open_int Try.underlying3 (hval 2 3 v2 rfl rfl) h2
  obtain ⟨a3, rfl, rfl, rfl, w3⟩ := open_int Try.underlying3 (hval 3 3 v3 rfl rfl) h3
  clear hA0 hval0
  refine (calendarNext_walk p0 n0 c0 l0 p1 n1 c1 l1 a2 a3 _ (Lib.hid hk0) (Lib.hid hk1)).mono fun e W' ⟨he, hb⟩ => ?_
  subst he
  exact ⟨_, rfl, law_post laid_out readable rfl rfl Try.underlying4 hW' rfl rfl rfl hb⟩

theorem over : Rows.calendarNextRow.holds Try.pinned (OpenSpec.ofChange Rows.calendarNextSpec) :=
  OpenClaim.holds_of_wide 7 Try.f7 rfl rfl rfl rfl rfl rfl rfl ⟨rfl, rfl, rfl, rfl, rfl⟩ rfl rfl rfl rfl rfl (by kernel_rfl) Try.func7 (by kernel_rfl)
    (of_decide_eq_true (by kernel_rfl)) (by unfold Func.isWrapper; first | (rw [if_pos (by decide +kernel)]; kernel_rfl) | (rw [if_neg (by decide +kernel)]; exact ⟨rfl, rfl⟩))
    (fun os started H enc _ => lifted os started H enc)

/-- the statement -/
theorem proved : Rows.CalendarNextSaid := over
end calendarNext
end Go.Proofs.Ytilokkkodocoiaa
