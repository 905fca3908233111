/- CalendarMore: a rule less, a gap less. No condition. -/
import Derived.Test.YtilokkkodocoiaaCalQ00
import Derived.Test.YtilokkkodocoiaaCalQ0b
import Derived.Test.YtilokkkodocoiaaCalQ0k
import Derived.Test.YtilokkkodocoiaaCalQ10
import Derived.Test.YtilokkkodocoiaaCalQ1b
import Derived.Test.YtilokkkodocoiaaCalQ1k
import Derived.Deep.DeepCutAuto
namespace Go.Proofs.Ytilokkkodocoiaa
open Go.ChangeShapes Go.WideShapes Go.ChangeAt Go.RowKit Go.WideElems
set_option linter.unusedVariables false
set_option linter.unusedSimpArgs false

theorem tmod_nat {z : Int} (h : 0 ≤ z) {n : Nat} (hn : 0 < n) : ∃ k : Nat, k < n ∧ Int.tmod z (n : Int) = (k : Int) := by
  obtain ⟨y, rfl⟩ := Int.eq_ofNat_of_zero_le h
  exact ⟨y % n, Nat.mod_lt _ hn, rfl⟩
set_option maxRecDepth 100000 in
set_option maxHeartbeats 4000000 in
theorem cmore_bad (p : Option Addr) (n c : Nat) (rs : List Rl) (q : Option Addr) (m d : Nat) (gs : List Gp) (a b av cv : Int) (w : World) (hr : Hid (RulesV w p n c rs)) (hg : Hid (GapsV w q m d gs)) (E : Int) (hE : Hid (momE rs gs a b = E)) (hE0 : ¬ E = 0) : Calls Try.prog 8 #[.slice p n c, .slice q m d, .int .i64 a, .int .i64 b, .int .u8 av, .int .u8 cv] w fun e w' => e = .returned (.bool true) ∧ Below w.heap.size w w' := by
  have d0 : decide (E = 0) = false := decide_eq_false hE0
  have d1 : (E == 0) = false := by simpa using hE0
  have d2 : (E != 0) = true := by simpa using hE0
  go_enter Try.func8, Try.ntmps8
  have B0 := Lib.hid (Below.refl w.heap.size w)
  have R0 := hr
  have G0 := hg
  clear hr hg
  go_upto_region 3 with (go_at_call 9; (with_reducible refine (sane19_any w).mono ?_); rintro e w1 ⟨rfl, hb⟩; have B1 := Lib.hid (bel_trans B0.out hb); have R1 := Lib.hid (R0.out.below hb); have G1 := Lib.hid (G0.out.below hb); clear hb)
  clear R0 G0 B0
  obtain ⟨L, hL⟩ := named (momR rs gs a b)
  go_upto_region 4 with (go_at_call 10; (with_reducible refine (cmom_ah p n c rs q m d gs a b w1 R1 G1 E L hE hL).mono ?_); rintro e w2 ⟨v2, rfl, ho, hb⟩; have B2 := Lib.hid (bel_trans B1.out hb); have R2 := Lib.hid (R1.out.below hb); have G2 := Lib.hid (G1.out.below hb); have O2 := ho; clear ho; clear hb)
  obtain ⟨pl, cl, hvl, hl2⟩ := ownI_ints O2
  subst hvl
  clear hl2 O2
  go_wp2_with fail
  go_ret
  exact ⟨rfl, B2.out⟩
theorem calendarMore_walk (p : Option Addr) (n c : Nat) (rs : List Rl) (q : Option Addr) (m d : Nat) (gs : List Gp) (a b av cv : Int) (w : World) (hr : Hid (RulesV w p n c rs)) (hg : Hid (GapsV w q m d gs)) (ha0 : 0 ≤ av) (ha1 : av ≤ 255) (hc0 : 0 ≤ cv) (hc1 : cv ≤ 255) : Calls Try.prog 8 #[.slice p n c, .slice q m d, .int .i64 a, .int .i64 b, .int .u8 av, .int .u8 cv] w fun e w' => e = .returned (.bool true) ∧ Below w.heap.size w w' := by
  by_cases hE : momE rs gs a b = 0
  case neg => exact cmore_bad p n c rs q m d gs a b av cv w hr hg _ (Lib.hid rfl) hE
  have hnl := hr.out.len
  have hml := hg.out.len
  by_cases h0 : n = 0
  · by_cases hm0 : m = 0
    · exact cmore_00 p n c rs q m d gs a b av cv w hr hg (Lib.hid hE) ha0 ha1 hc0 hc1 h0 hm0
    · obtain ⟨j, hj, hm2⟩ := tmod_nat hc0 (show 0 < m by omega)
      rcases lessG_mom hE (k := j) (by omega) with ⟨e1, e2⟩ | ⟨e1, e2⟩
      · exact cmore_0b p n c rs q m d gs a b av cv w hr hg (Lib.hid hE) ha0 ha1 hc0 hc1 h0 j hj hm2 _ _ (Lib.hid rfl) _ (Lib.hid rfl) (Lib.hid e1) (Lib.hid e2)
      · exact cmore_0k p n c rs q m d gs a b av cv w hr hg (Lib.hid hE) ha0 ha1 hc0 hc1 h0 j hj hm2 _ _ (Lib.hid rfl) _ (Lib.hid rfl) _ (Lib.hid e1) (Lib.hid rfl) _ (Lib.hid rfl) (Lib.hid e2)
  · obtain ⟨k, hk, hm1⟩ := tmod_nat ha0 (show 0 < n by omega)
    obtain ⟨e3, f, e4⟩ := lessR_mom hE (k := k) (show k < rs.length by omega)
    by_cases hm0 : m = 0
    · exact cmore_10 p n c rs q m d gs a b av cv w hr hg (Lib.hid hE) ha0 ha1 hc0 hc1 k hk hm1 _ (Lib.hid rfl) _ (Lib.hid e3) (Lib.hid rfl) f (Lib.hid e4) hm0
    · obtain ⟨j, hj, hm2⟩ := tmod_nat hc0 (show 0 < m by omega)
      rcases lessG_mom hE (k := j) (by omega) with ⟨e1, e2⟩ | ⟨e1, e2⟩
      · exact cmore_1b p n c rs q m d gs a b av cv w hr hg (Lib.hid hE) ha0 ha1 hc0 hc1 k hk hm1 _ (Lib.hid rfl) _ (Lib.hid e3) (Lib.hid rfl) f (Lib.hid e4) j hj hm2 _ _ (Lib.hid rfl) _ (Lib.hid rfl) (Lib.hid e1) (Lib.hid e2)
      · exact cmore_1k p n c rs q m d gs a b av cv w hr hg (Lib.hid hE) ha0 ha1 hc0 hc1 k hk hm1 _ (Lib.hid rfl) _ (Lib.hid e3) (Lib.hid rfl) f (Lib.hid e4) j hj hm2 _ _ (Lib.hid rfl) _ (Lib.hid rfl) _ (Lib.hid e1) (Lib.hid rfl) _ (Lib.hid rfl) (Lib.hid e2)

namespace calendarMore
theorem readable : ∀ t ∈ Try.f8.params.toList, Try.prog.readableRec t = true ∧ t < Try.prog.types.size := by
  rw [Try.params8]
  intro t ht
  simp only [List.mem_cons, List.not_mem_nil, or_false] at ht
  rcases ht with rfl | rfl | rfl | rfl | rfl | rfl
  all_goals exact ⟨by kernel_rfl, by decide +kernel⟩

set_option maxRecDepth 100000 in
theorem lifted (os : Os) (started : os.Started) (H : Type) (enc : TypeId × Value → H) :
    ReturnsInHanded {} Try.checked os 8 .any (Rows.calendarMoreSpec.pre6 enc Try.prog Try.f8 Rows.calendarMoreRow.domain false) (Rows.calendarMoreSpec.post enc Try.prog Try.f8 false true false false) := by
  refine returnsInHanded_of_change (C := Try.checked) own_knob started (by kernel_rfl) Try.func8
    (ChangeSpec.witness6 (enc := enc) (C := Try.checked) false ⟨#[], #[.slice none 0 0, .slice none 0 0, .int .i64 0, .int .i64 0, .int .u8 0, .int .u8 0], []⟩ 8 (by kernel_rfl) (by kernel_rfl) (by kernel_rfl) (by kernel_rfl)) ?_
  intro W base args ds gs before hval0 hW hcnd _
  have hval : ∀ (j : Nat) t v, Try.f8.params[j]? = some t → args[j]? = some v → Value.okWide Try.prog W .any base t v := hval0
  have hW' := hW
  obtain ⟨p, q, hA0, hV, rfl, hfz, hnd⟩ := hW
  have hA : DataW.TrodAll enc Try.prog W 0 (fun _ => true) true Try.f8.params.toList args.toList ds p := hA0
  rw [Try.params8] at hA hval
  obtain ⟨v0, vs0, d0, ds0, p0, q0, hargs, rfl, rfl, h0, r0⟩ := trodAll_cons hA
  obtain ⟨v1, vs1, d1, ds1, p1, q1, rfl, rfl, rfl, h1, r1⟩ := trodAll_cons r0
  obtain ⟨v2, vs2, d2, ds2, p2, q2, rfl, rfl, rfl, h2, r2⟩ := trodAll_cons r1
  obtain ⟨v3, vs3, d3, ds3, p3, q3, rfl, rfl, rfl, h3, r3⟩ := trodAll_cons r2
  obtain ⟨v4, vs4, d4, ds4, p4, q4, rfl, rfl, rfl, h4, r4⟩ := trodAll_cons r3
  obtain ⟨v5, vs5, d5, ds5, p5, q5, rfl, rfl, rfl, h5, r5⟩ := trodAll_cons r4
  obtain ⟨rfl, rfl, rfl⟩ := trodAll_nil r5
  obtain rfl : args = #[v0, v1, v2, v3, v4, v5] := by cases args; simp_all
  obtain ⟨rfl, rfl⟩ := trodVars_none hV
  obtain ⟨p0, n0, c0, l0, rfl, hk0⟩ := open_rules (hval 0 22 v0 rfl rfl) h0
  obtain ⟨p1, n1, c1, l1, rfl, hk1⟩ := open_gaps (hval 1 23 v1 rfl rfl) h1
  obtain ⟨a2, rfl, rfl, rfl, w2⟩ := open_int Try.underlying3 (hval 2 3 v2 rfl rfl) h2
  obtain ⟨a3, rfl, rfl, rfl, w3⟩ := open_int Try.underlying3 (hval 3 3 v3 rfl rfl) h3
  obtain ⟨a4, rfl, rfl, rfl, w4⟩ := open_int Try.underlying5 (hval 4 5 v4 rfl rfl) h4
  obtain ⟨a5, rfl, rfl, rfl, w5⟩ := open_int Try.underlying5 (hval 5 5 v5 rfl rfl) h5
  clear hA0 hval0
  refine (calendarMore_walk p0 n0 c0 l0 p1 n1 c1 l1 a2 a3 a4 a5 _ (Lib.hid hk0) (Lib.hid hk1) (bounds_u8 w4).1 (bounds_u8 w4).2 (bounds_u8 w5).1 (bounds_u8 w5).2).mono fun e W' ⟨he, hb⟩ => ?_
  subst he
  exact ⟨_, rfl, law_post laid_out readable rfl rfl Try.underlying4 hW' rfl rfl rfl hb⟩

theorem over : Rows.calendarMoreRow.holds Try.pinned (OpenSpec.ofChange Rows.calendarMoreSpec) :=
  OpenClaim.holds_of_wide 8 Try.f8 rfl rfl rfl rfl rfl rfl rfl ⟨rfl, rfl, rfl, rfl, rfl⟩ rfl rfl rfl rfl rfl (by kernel_rfl) Try.func8 (by kernel_rfl)
    (of_decide_eq_true (by kernel_rfl)) (by unfold Func.isWrapper; first | (rw [if_pos (by decide +kernel)]; kernel_rfl) | (rw [if_neg (by decide +kernel)]; exact ⟨rfl, rfl⟩))
    (fun os started H enc _ => lifted os started H enc)

/-- the statement -/
theorem proved : Rows.CalendarMoreSaid := over
end calendarMore
end Go.Proofs.Ytilokkkodocoiaa
