/- CalendarSpec: Check and Moments answer as the reference does. No condition. -/
import Derived.Test.YtilokkkodocoiaaCalSpc
import Derived.Deep.DeepCutAuto
namespace Go.Proofs.Ytilokkkodocoiaa
open Go.ChangeShapes Go.WideShapes Go.ChangeAt Go.RowKit Go.WideElems
set_option linter.unusedVariables false
set_option linter.unusedSimpArgs false

set_option maxRecDepth 100000 in
set_option maxHeartbeats 4000000 in
theorem calendarSpec_walk (p : Option Addr) (n c : Nat) (rs : List Rl) (q : Option Addr) (m d : Nat) (gs : List Gp) (a b : Int) (w : World) (hr : Hid (RulesV w p n c rs)) (hg : Hid (GapsV w q m d gs)) : Calls Try.prog 3 #[.slice p n c, .slice q m d, .int .i64 a, .int .i64 b] w fun e w' => e = .returned (.bool true) ∧ Below w.heap.size w w' := by
  go_enter Try.func3, Try.ntmps3
  have B0 := Lib.hid (Below.refl w.heap.size w)
  have R0 := hr
  have G0 := hg
  clear hr hg
  go_upto_region 3 with (go_at_call 9; (with_reducible refine (sane19_any w).mono ?_); rintro e w1 ⟨rfl, hb⟩; have B1 := Lib.hid (bel_trans B0.out hb); have R1 := Lib.hid (R0.out.below hb); have G1 := Lib.hid (G0.out.below hb); clear hb)
  clear R0 G0 B0
  obtain ⟨E, hE⟩ := named (momE rs gs a b)
  obtain ⟨L, hL⟩ := named (momR rs gs a b)
  obtain ⟨C, hC⟩ := named (chkE rs gs)
  have HN : L.length ≤ 2000 := by rw [← hL.out]; exact momR_len
  go_upto_region 4 with (go_at_call 10; (with_reducible refine (cmom_ah p n c rs q m d gs a b w1 R1 G1 E L hE hL).mono ?_); rintro e w2 ⟨v2, rfl, ho, hb⟩; have B2 := Lib.hid (bel_trans B1.out hb); have R2 := Lib.hid (R1.out.below hb); have G2 := Lib.hid (G1.out.below hb); have O2 := ho; clear ho; clear hb)
  clear R1 G1 B1
  obtain ⟨pl, cl, hvl, hl2⟩ := ownI_ints O2
  subst hvl
  have L2 := Lib.hid hl2
  clear hl2 O2
  go_upto_region 5 with (go_at_call 11; (with_reducible refine (rmom_ah p n c rs q m d gs a b w2 R2 G2 E L hE hL).mono ?_); rintro e w3 ⟨v3, rfl, ho, hb⟩; have B3 := Lib.hid (bel_trans B2.out hb); have R3 := Lib.hid (R2.out.below hb); have G3 := Lib.hid (G2.out.below hb); have L3 := Lib.hid (L2.out.below hb); have O3 := ho; clear ho; clear hb)
  clear R2 G2 B2 L2
  obtain ⟨pm, cm, hvm, hm3⟩ := ownI_ints O3
  subst hvm
  have M3 := Lib.hid hm3
  clear hm3 O3
  have SM := Lib.hid (fun (w5 : World) (h1 : Hid (IntsV w5 pl L.length cl L)) (h2 : Hid (IntsV w5 pm L.length cm L)) => rsame_is pl pm L.length cl L.length cm L L true w5 h1 h2 (by omega) (by omega) (Lib.hid (by simp)))
  go_wp2_with (first
    | (go_at_call 12; (with_reducible refine (ccheck_is p n c rs q m d gs C w3 R3 G3 hC).mono ?_); rintro e w4 ⟨rfl, hb⟩; have B4 := Lib.hid (bel_trans B3.out hb); have R4 := Lib.hid (R3.out.below hb); have G4 := Lib.hid (G3.out.below hb); have L4 := Lib.hid (L3.out.below hb); have M4 := Lib.hid (M3.out.below hb); clear hb)
    | (go_at_call 13; (with_reducible refine (rcheck_is p n c rs q m d gs C w4 R4 G4 hC).mono ?_); rintro e w5 ⟨rfl, hb⟩; have B5 := Lib.hid (bel_trans B4.out hb); have R5 := Lib.hid (R4.out.below hb); have G5 := Lib.hid (G4.out.below hb); have L5 := Lib.hid (L4.out.below hb); have M5 := Lib.hid (M4.out.below hb); clear hb)
    | (go_at_call 14; (with_reducible refine (SM.out w5 L5 M5).mono ?_); rintro e w6 ⟨rfl, hb⟩; have B6 := Lib.hid (bel_trans B5.out hb); clear hb))
  go_ret
  exact ⟨rfl, B6.out⟩

namespace calendarSpec
theorem readable : ∀ t ∈ Try.f3.params.toList, Try.prog.readableRec t = true ∧ t < Try.prog.types.size := by
  rw [Try.params3]
  intro t ht
  simp only [List.mem_cons, List.not_mem_nil, or_false] at ht
  rcases ht with rfl | rfl | rfl | rfl
  all_goals exact ⟨by kernel_rfl, by decide +kernel⟩

set_option maxRecDepth 100000 in
theorem lifted (os : Os) (started : os.Started) (H : Type) (enc : TypeId × Value → H) :
    ReturnsInHanded {} Try.checked os 3 .any (Rows.calendarSpecSpec.pre6 enc Try.prog Try.f3 Rows.calendarSpecRow.domain false) (Rows.calendarSpecSpec.post enc Try.prog Try.f3 false true false false) := by
  refine returnsInHanded_of_change (C := Try.checked) own_knob started (by kernel_rfl) Try.func3
    (ChangeSpec.witness6 (enc := enc) (C := Try.checked) false ⟨#[], #[.slice none 0 0, .slice none 0 0, .int .i64 0, .int .i64 0], []⟩ 8 (by kernel_rfl) (by kernel_rfl) (by kernel_rfl) (by kernel_rfl)) ?_
  intro W base args ds gs before hval0 hW hcnd _
  have hval : ∀ (j : Nat) t v, Try.f3.params[j]? = some t → args[j]? = some v → Value.okWide Try.prog W .any base t v := hval0
  have hW' := hW
  obtain ⟨p, q, hA0, hV, rfl, hfz, hnd⟩ := hW
  have hA : DataW.TrodAll enc Try.prog W 0 (fun _ => true) true Try.f3.params.toList args.toList ds p := hA0
  rw [Try.params3] at hA hval
  obtain ⟨v0, vs0, d0, ds0, p0, q0, hargs, rfl, rfl, h0, r0⟩ := trodAll_cons hA
  obtain ⟨v1, vs1, d1, ds1, p1, q1, rfl, rfl, rfl, h1, r1⟩ := trodAll_cons r0
  obtain ⟨v2, vs2, d2, ds2, p2, q2, rfl, rfl, rfl, h2, r2⟩ := trodAll_cons r1
  obtain ⟨v3, vs3, d3, ds3, p3, q3, rfl, rfl, rfl, h3, r3⟩ := trodAll_cons r2
  obtain ⟨rfl, rfl, rfl⟩ := trodAll_nil r3
  obtain rfl : args = #[v0, v1, v2, v3] := by cases args; simp_all
  obtain ⟨rfl, rfl⟩ := trodVars_none hV
  obtain ⟨p0, n0, c0, l0, rfl, hk0⟩ := open_rules (hval 0 22 v0 rfl rfl) h0
  obtain ⟨p1, n1, c1, l1, rfl, hk1⟩ := open_gaps (hval 1 23 v1 rfl rfl) h1
  obtain ⟨a2, rfl, rfl, rfl, w2⟩ := open_int Try.underlying3 (hval 2 3 v2 rfl rfl) h2
  obtain ⟨a3, rfl, rfl, rfl, w3⟩ := open_int Try.underlying3 (hval 3 3 v3 rfl rfl) h3
  clear hA0 hval0
  refine (calendarSpec_walk p0 n0 c0 l0 p1 n1 c1 l1 a2 a3 _ (Lib.hid hk0) (Lib.hid hk1)).mono fun e W' ⟨he, hb⟩ => ?_
  subst he
  exact ⟨_, rfl, law_post laid_out readable rfl rfl Try.underlying4 hW' rfl rfl rfl hb⟩

theorem over : Rows.calendarSpecRow.holds Try.pinned (OpenSpec.ofChange Rows.calendarSpecSpec) :=
  OpenClaim.holds_of_wide 3 Try.f3 rfl rfl rfl rfl rfl rfl rfl ⟨rfl, rfl, rfl, rfl, rfl⟩ rfl rfl rfl rfl rfl (by kernel_rfl) Try.func3 (by kernel_rfl)
    (of_decide_eq_true (by kernel_rfl)) (by unfold Func.isWrapper; first | (rw [if_pos (by decide +kernel)]; kernel_rfl) | (rw [if_neg (by decide +kernel)]; exact ⟨rfl, rfl⟩))
    (fun os started H enc _ => lifted os started H enc)

/-- the statement -/
theorem proved : Rows.CalendarSpecSaid := over
end calendarSpec
end Go.Proofs.Ytilokkkodocoiaa
