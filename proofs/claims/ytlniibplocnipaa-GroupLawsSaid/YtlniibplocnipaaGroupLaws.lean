/- Elements are a commutative group, for all ints. No condition. -/
import Derived.Test.YtlniibplocnipaaLawKit
import Derived.Test.YtlniibplocnipaaGroupPows
namespace Go.Proofs.Ytlniibplocnipaa
open Go.ChangeShapes Go.WideShapes Go.ChangeAt Go.RowKit
set_option linter.unusedVariables false

set_option maxRecDepth 100000 in
set_option maxHeartbeats 2000000 in
theorem groupLaws_go (x y z a b c ab bc abc ia ib iab : Int) (w : World) (hx : Hid (elt x = a)) (hy : Hid (elt y = b)) (hz : Hid (elt z = c)) (g : Hid (Grp a b c ab bc abc ia ib iab)) :
    Calls Try.prog 4 #[.int .i64 x, .int .i64 y, .int .i64 z] w fun e w' => e = .returned (.bool true) ∧ Below w.heap.size w w' := by
  go_enter Try.func4, Try.ntmps4
  go_wp2_with fail
  refine (sane_any _).mono ?_; rintro e w1 ⟨rfl, hb1⟩
  have hS1 := Lib.hid hb1; clear hb1
  go_wp2_with fail
  refine (elm_n x a _ hx.out).mono ?_; rintro e w' ⟨rfl, rfl⟩
  go_wp2_with fail
  refine (elm_n y b _ hy.out).mono ?_; rintro e w' ⟨rfl, rfl⟩
  go_wp2_with fail
  refine (elm_n z c _ hz.out).mono ?_; rintro e w' ⟨rfl, rfl⟩
  go_wp2_with fail
  refine (lmul_n a b ab _ g.out.ha g.out.hb g.out.eab).mono ?_; rintro e w2 ⟨rfl, hb2⟩
  have hS2 := Lib.hid (bel_trans hS1.out hb2); clear hb2 hS1
  go_wp2_with fail
  refine (val_c a true _ g.out.ha).mono ?_; rintro e w' ⟨rfl, rfl⟩
  go_wp2_with fail
  refine (val_c ab true _ g.out.hab).mono ?_; rintro e w' ⟨rfl, rfl⟩
  go_wp2_with fail
  refine (lmul_n b a ab _ g.out.hb g.out.ha g.out.eba).mono ?_; rintro e w3 ⟨rfl, hb3⟩
  have hS3 := Lib.hid (bel_trans hS2.out hb3); clear hb3 hS2
  go_wp2_with fail
  refine (lmul_n ab c abc _ g.out.hab g.out.hc g.out.e1).mono ?_; rintro e w4 ⟨rfl, hb4⟩
  have hS4 := Lib.hid (bel_trans hS3.out hb4); clear hb4 hS3
  go_wp2_with fail
  refine (lmul_n b c bc _ g.out.hb g.out.hc g.out.ebc).mono ?_; rintro e w5 ⟨rfl, hb5⟩
  have hS5 := Lib.hid (bel_trans hS4.out hb5); clear hb5 hS4
  go_wp2_with fail
  refine (lmul_n a bc abc _ g.out.ha g.out.hbc g.out.e2).mono ?_; rintro e w6 ⟨rfl, hb6⟩
  have hS6 := Lib.hid (bel_trans hS5.out hb6); clear hb6 hS5
  go_wp2_with fail
  refine (lmul_n a 1 a _ g.out.ha elB_one g.out.e3).mono ?_; rintro e w7 ⟨rfl, hb7⟩
  have hS7 := Lib.hid (bel_trans hS6.out hb7); clear hb7 hS6
  go_wp2_with fail
  refine (lpow_n a (-1) ia _ g.out.pa).mono ?_; rintro e w8 ⟨rfl, hb8⟩
  have hS8 := Lib.hid (bel_trans hS7.out hb8); clear hb8 hS7
  go_wp2_with fail
  refine (lmul_n a ia 1 _ g.out.ha g.out.hia g.out.e4).mono ?_; rintro e w9 ⟨rfl, hb9⟩
  have hS9 := Lib.hid (bel_trans hS8.out hb9); clear hb9 hS8
  go_wp2_with fail
  refine (lmul_n a b ab _ g.out.ha g.out.hb g.out.eab).mono ?_; rintro e w10 ⟨rfl, hb10⟩
  have hS10 := Lib.hid (bel_trans hS9.out hb10); clear hb10 hS9
  go_wp2_with fail
  refine (lpow_n b (-1) ib _ g.out.pb).mono ?_; rintro e w11 ⟨rfl, hb11⟩
  have hS11 := Lib.hid (bel_trans hS10.out hb11); clear hb11 hS10
  go_wp2_with fail
  refine (lmul_n ab ib a _ g.out.hab g.out.hib g.out.e5).mono ?_; rintro e w12 ⟨rfl, hb12⟩
  have hS12 := Lib.hid (bel_trans hS11.out hb12); clear hb12 hS11
  go_wp2_with fail
  refine (lpow_n ab (-1) iab _ g.out.pab).mono ?_; rintro e w13 ⟨rfl, hb13⟩
  have hS13 := Lib.hid (bel_trans hS12.out hb13); clear hb13 hS12
  go_wp2_with fail
  refine (lpow_n a (-1) ia _ g.out.pa).mono ?_; rintro e w14 ⟨rfl, hb14⟩
  have hS14 := Lib.hid (bel_trans hS13.out hb14); clear hb14 hS13
  go_wp2_with fail
  refine (lpow_n b (-1) ib _ g.out.pb).mono ?_; rintro e w15 ⟨rfl, hb15⟩
  have hS15 := Lib.hid (bel_trans hS14.out hb15); clear hb15 hS14
  go_wp2_with fail
  refine (lmul_n ia ib iab _ g.out.hia g.out.hib g.out.e6).mono ?_; rintro e w16 ⟨rfl, hb16⟩
  have hS16 := Lib.hid (bel_trans hS15.out hb16); clear hb16 hS15
  go_wp2_with fail
  go_ret
  exact ⟨rfl, hS16.out⟩

theorem groupLaws_walk (x y z : Int) (_ : (Lit.int .i64 x).wf = true) (_ : (Lit.int .i64 y).wf = true) (_ : (Lit.int .i64 z).wf = true) (w : World) :
    Calls Try.prog 4 #[.int .i64 x, .int .i64 y, .int .i64 z] w fun e w' => e = .returned (.bool true) ∧ Below w.heap.size w w' := by
  obtain ⟨ab, bc, abc, ia, ib, iab, g⟩ := grp (elt_el x) (elt_el y) (elt_el z)
  exact groupLaws_go x y z _ _ _ ab bc abc ia ib iab w rfl rfl rfl g

namespace groupLaws
theorem readable : ∀ t ∈ Try.f4.params.toList, Try.prog.readableRec t = true ∧ t < Try.prog.types.size := by
  rw [Try.params4]
  intro t ht
  simp only [List.mem_cons, List.not_mem_nil, or_false] at ht
  rcases ht with rfl | rfl | rfl
  all_goals exact ⟨by kernel_rfl, by decide +kernel⟩

set_option maxRecDepth 100000 in
theorem lifted (os : Os) (started : os.Started) (H : Type) (enc : TypeId × Value → H) :
    ReturnsInHanded {} Try.checked os 4 .any (Rows.groupLawsSpec.pre6 enc Try.prog Try.f4 Rows.groupLawsRow.domain false) (Rows.groupLawsSpec.post enc Try.prog Try.f4 false true false false) := by
  refine returnsInHanded_of_change (C := Try.checked) own_knob started (by kernel_rfl) Try.func4
    (ChangeSpec.witness6 (enc := enc) (C := Try.checked) false ⟨#[], #[.int .i64 0, .int .i64 0, .int .i64 0], []⟩ 8 (by kernel_rfl) (by kernel_rfl) (by kernel_rfl) (by kernel_rfl)) ?_
  intro W base args ds gs before hval0 hW hcnd _
  have hval : ∀ (j : Nat) t v, Try.f4.params[j]? = some t → args[j]? = some v → Value.okWide Try.prog W .any base t v := hval0
  have hW' := hW
  obtain ⟨p, q, hA0, hV, rfl, hfz, hnd⟩ := hW
  have hA : DataW.TrodAll enc Try.prog W 0 (fun _ => true) true Try.f4.params.toList args.toList ds p := hA0
  rw [Try.params4] at hA hval
  obtain ⟨v0, vs0, d0, ds0, p0, q0, hargs, rfl, rfl, h0, r0⟩ := trodAll_cons hA
  obtain ⟨v1, vs1, d1, ds1, p1, q1, rfl, rfl, rfl, h1, r1⟩ := trodAll_cons r0
  obtain ⟨v2, vs2, d2, ds2, p2, q2, rfl, rfl, rfl, h2, r2⟩ := trodAll_cons r1
  obtain ⟨rfl, rfl, rfl⟩ := trodAll_nil r2
  obtain rfl : args = #[v0, v1, v2] := by cases args; simp_all
  obtain ⟨rfl, rfl⟩ := trodVars_none hV
  obtain ⟨a0, rfl, rfl, rfl, w0⟩ := open_int Try.underlying3 (hval 0 3 v0 rfl rfl) h0
  obtain ⟨a1, rfl, rfl, rfl, w1⟩ := open_int Try.underlying3 (hval 1 3 v1 rfl rfl) h1
  obtain ⟨a2, rfl, rfl, rfl, w2⟩ := open_int Try.underlying3 (hval 2 3 v2 rfl rfl) h2
  clear hA0 hval0
  refine (groupLaws_walk a0 a1 a2 w0 w1 w2 W).mono fun e W' ⟨he, hb⟩ => ?_
  subst he
  exact ⟨_, rfl, law_post laid_out readable rfl rfl Try.underlying4 hW' rfl rfl rfl hb⟩

theorem over : Rows.groupLawsRow.holds Try.pinned (OpenSpec.ofChange Rows.groupLawsSpec) :=
  OpenClaim.holds_of_wide 4 Try.f4 rfl rfl rfl rfl rfl rfl rfl ⟨rfl, rfl, rfl, rfl, rfl⟩ rfl rfl rfl rfl rfl (by kernel_rfl) Try.func4 (by kernel_rfl)
    (of_decide_eq_true (by kernel_rfl)) (by unfold Func.isWrapper; first | (rw [if_pos (by decide +kernel)]; kernel_rfl) | (rw [if_neg (by decide +kernel)]; exact ⟨rfl, rfl⟩))
    (fun os started H enc _ => lifted os started H enc)

/-- the statement -/
theorem proved : Rows.GroupLawsSaid := over
end groupLaws
end Go.Proofs.Ytlniibplocnipaa
