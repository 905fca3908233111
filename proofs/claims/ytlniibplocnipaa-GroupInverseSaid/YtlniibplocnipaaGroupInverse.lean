/- Element and Number are inverse to each other, for all ints. No condition. -/
import Derived.Test.YtlniibplocnipaaLawKit
import Derived.Test.YtlniibplocnipaaGroupLaw
namespace Go.Proofs.Ytlniibplocnipaa
open Go.ChangeShapes Go.WideShapes Go.ChangeAt Go.RowKit
set_option linter.unusedVariables false

theorem elm_range {n : Int} (h : 1 ≤ n ∧ n ≤ 1073741789) : elB (elmZ n) = true := by
  unfold elmZ; rw [if_pos h]
  cases hv : elB n with
  | true => rw [if_pos rfl]; exact hv
  | false => rw [if_neg (by simp), element_low (by omega) (by omega), hv]; rfl

/-- different numbers have different elements -/
theorem elm_inj {n m : Int} (h : 1 ≤ n ∧ n ≤ 1073741789) (k : 1 ≤ m ∧ m ≤ 1073741789) : (elmZ n == elmZ m) = (n == m) := by
  by_cases e : n = m
  · subst e; simp
  · rw [beq_eq_false_iff_ne.2 e, beq_eq_false_iff_ne]
    unfold elmZ; rw [if_pos h, if_pos k]
    split <;> split <;> omega

theorem num_elm {n : Int} (h : 1 ≤ n ∧ n ≤ 1073741789) : numZ (elmZ n) = n ∧ numE (elmZ n) = 0 := by
  have hr := elm_range h
  unfold numZ numE; rw [hr, if_pos rfl, if_pos rfl]
  refine ⟨?_, rfl⟩
  unfold elmZ; rw [if_pos h]
  split <;> split <;> omega

theorem elm_num {n : Int} (h : elB n = true) : (1 ≤ numZ n ∧ numZ n ≤ 1073741789) ∧ elmZ (numZ n) = n := by
  obtain ⟨h1, h2⟩ := elB_iff h
  unfold numZ; rw [h, if_pos rfl]
  by_cases c : n ≤ 1073741789
  · rw [if_pos c]
    refine ⟨by omega, ?_⟩
    unfold elmZ; rw [if_pos (by omega), h]; rfl
  · rw [if_neg c]
    refine ⟨by omega, ?_⟩
    unfold elmZ; rw [if_pos (by omega), element_low (by omega) (by omega), h]
    show (if (false = true) then _ else _) = n
    rw [if_neg (by simp)]; omega

set_option maxRecDepth 100000 in
set_option maxHeartbeats 1000000 in
theorem groupInverse_out (n m : Int) (w : World) (hout : ¬ (1 ≤ n ∧ n ≤ 1073741789)) :
    Calls Try.prog 7 #[.int .i64 n, .int .i64 m] w fun e w' => e = .returned (.bool true) ∧ Below w.heap.size w w' := by
  have e1 := Lib.hid (show elmZ n = 0 by unfold elmZ; rw [if_neg hout])
  have e2 := Lib.hid (show elmE n = 1 by unfold elmE; rw [if_neg hout])
  cases hv : elB n with
  | true =>
    have HV := Lib.hid hv
    have h1 := (elB_iff hv).1
    have h2 : ¬ n ≤ 1073741789 := fun h => hout ⟨h1, h⟩
    obtain ⟨⟨k1, k2⟩, hk⟩ := elm_num hv
    have n2 := Lib.hid (show numE n = 0 by unfold numE; rw [hv]; rfl)
    have HK := Lib.hid hk
    have HE := Lib.hid (show elmE (numZ n) = 0 by unfold elmE; rw [if_pos ⟨k1, k2⟩])
    generalize hq : numZ n = q at *
    have n1 := Lib.hid hq
    clear hq hk hv hout
    go_enter Try.func7, Try.ntmps7
    go_wp2_with fail
    refine (sane_any _).mono ?_; rintro e w1 ⟨rfl, hb1⟩
    have hS := Lib.hid hb1; clear hb1
    go_wp2_with fail
    refine (elm_c n 0 1 _ e1.out e2.out).mono ?_; rintro e w' ⟨rfl, rfl⟩
    go_wp2_with fail
    refine (num_c n q 0 _ n1.out n2.out).mono ?_; rintro e w' ⟨rfl, rfl⟩
    go_wp2_with fail
    refine (val_c n true _ HV.out).mono ?_; rintro e w' ⟨rfl, rfl⟩
    go_wp2_with fail
    refine (elm_c q n 0 _ HK.out HE.out).mono ?_; rintro e w' ⟨rfl, rfl⟩
    go_wp2_with fail
    go_ret
    exact ⟨rfl, hS.out⟩
  | false =>
    have HV := Lib.hid hv
    have n1 := Lib.hid (show numZ n = 0 by unfold numZ; rw [hv]; rfl)
    have n2 := Lib.hid (show numE n = 90 by unfold numE; rw [hv]; rfl)
    clear hv
    by_cases h1 : 1 ≤ n
    · have h2 : ¬ n ≤ 1073741789 := fun h => hout ⟨h1, h⟩
      clear hout
      go_enter Try.func7, Try.ntmps7
      go_wp2_with fail
      refine (sane_any _).mono ?_; rintro e w1 ⟨rfl, hb1⟩
      have hS := Lib.hid hb1; clear hb1
      go_wp2_with fail
      refine (elm_c n 0 1 _ e1.out e2.out).mono ?_; rintro e w' ⟨rfl, rfl⟩
      go_wp2_with fail
      refine (num_c n 0 90 _ n1.out n2.out).mono ?_; rintro e w' ⟨rfl, rfl⟩
      go_wp2_with fail
      refine (val_c n false _ HV.out).mono ?_; rintro e w' ⟨rfl, rfl⟩
      go_wp2_with fail
      go_ret
      exact ⟨rfl, hS.out⟩
    · clear hout
      go_enter Try.func7, Try.ntmps7
      go_wp2_with fail
      refine (sane_any _).mono ?_; rintro e w1 ⟨rfl, hb1⟩
      have hS := Lib.hid hb1; clear hb1
      go_wp2_with fail
      refine (elm_c n 0 1 _ e1.out e2.out).mono ?_; rintro e w' ⟨rfl, rfl⟩
      go_wp2_with fail
      refine (num_c n 0 90 _ n1.out n2.out).mono ?_; rintro e w' ⟨rfl, rfl⟩
      go_wp2_with fail
      refine (val_c n false _ HV.out).mono ?_; rintro e w' ⟨rfl, rfl⟩
      go_wp2_with fail
      go_ret
      exact ⟨rfl, hS.out⟩

set_option maxRecDepth 100000 in
set_option maxHeartbeats 2000000 in
theorem groupInverse_yes (n m : Int) (w : World) (h1 : 1 ≤ n) (h2 : n ≤ 1073741789) (hv : elB n = true) :
    Calls Try.prog 7 #[.int .i64 n, .int .i64 m] w fun e w' => e = .returned (.bool true) ∧ Below w.heap.size w w' := by
  have HV := Lib.hid hv
  have hx : elmZ n = n := by unfold elmZ; rw [if_pos ⟨h1, h2⟩, hv]; rfl
  have e1 := Lib.hid hx
  have e2 := Lib.hid (show elmE n = 0 by unfold elmE; rw [if_pos ⟨h1, h2⟩])
  have hn := num_elm ⟨h1, h2⟩
  have hr := elm_range ⟨h1, h2⟩
  have n1 := Lib.hid (hx ▸ hn.1)
  have n2 := Lib.hid (hx ▸ hn.2)
  have HX := Lib.hid (hx ▸ hr)
  by_cases hm : 1 ≤ m ∧ m ≤ 1073741789
  · have y2 := Lib.hid (show elmE m = 0 by unfold elmE; rw [if_pos hm])
    have hi := elm_inj ⟨h1, h2⟩ hm
    rw [hx] at hi
    generalize hy : elmZ m = y at hi
    have y1 := Lib.hid hy
    have HI := Lib.hid hi
    clear hy hi hn hr hv hx hm
    cases hc : (n == m) with
    | true =>
      have hc1 : (n == y) = true := by rw [HI.out, hc]
      go_enter Try.func7, Try.ntmps7
      go_wp2_with fail
      refine (sane_any _).mono ?_; rintro e w1 ⟨rfl, hb1⟩
      have hS := Lib.hid hb1; clear hb1
      go_wp2_with fail
      refine (elm_c n n 0 _ e1.out e2.out).mono ?_; rintro e w' ⟨rfl, rfl⟩
      go_wp2_with fail
      refine (num_c n n 0 _ n1.out n2.out).mono ?_; rintro e w' ⟨rfl, rfl⟩
      go_wp2_with fail
      refine (val_c n true _ HX.out).mono ?_; rintro e w' ⟨rfl, rfl⟩
      go_wp2_with fail
      refine (elm_c m y 0 _ y1.out y2.out).mono ?_; rintro e w' ⟨rfl, rfl⟩
      go_wp2_with fail
      refine (num_c n n 0 _ n1.out n2.out).mono ?_; rintro e w' ⟨rfl, rfl⟩
      go_wp2_with fail
      refine (val_c n true _ HV.out).mono ?_; rintro e w' ⟨rfl, rfl⟩
      go_wp2_with fail
      refine (elm_c n n 0 _ e1.out e2.out).mono ?_; rintro e w' ⟨rfl, rfl⟩
      go_wp2_with fail
      go_ret
      exact ⟨rfl, hS.out⟩
    | false =>
      have hc1 : (n == y) = false := by rw [HI.out, hc]
      go_enter Try.func7, Try.ntmps7
      go_wp2_with fail
      refine (sane_any _).mono ?_; rintro e w1 ⟨rfl, hb1⟩
      have hS := Lib.hid hb1; clear hb1
      go_wp2_with fail
      refine (elm_c n n 0 _ e1.out e2.out).mono ?_; rintro e w' ⟨rfl, rfl⟩
      go_wp2_with fail
      refine (num_c n n 0 _ n1.out n2.out).mono ?_; rintro e w' ⟨rfl, rfl⟩
      go_wp2_with fail
      refine (val_c n true _ HX.out).mono ?_; rintro e w' ⟨rfl, rfl⟩
      go_wp2_with fail
      refine (elm_c m y 0 _ y1.out y2.out).mono ?_; rintro e w' ⟨rfl, rfl⟩
      go_wp2_with fail
      refine (num_c n n 0 _ n1.out n2.out).mono ?_; rintro e w' ⟨rfl, rfl⟩
      go_wp2_with fail
      refine (val_c n true _ HV.out).mono ?_; rintro e w' ⟨rfl, rfl⟩
      go_wp2_with fail
      refine (elm_c n n 0 _ e1.out e2.out).mono ?_; rintro e w' ⟨rfl, rfl⟩
      go_wp2_with fail
      go_ret
      exact ⟨rfl, hS.out⟩
  · have y1 := Lib.hid (show elmZ m = 0 by unfold elmZ; rw [if_neg hm])
    have y2 := Lib.hid (show elmE m = 1 by unfold elmE; rw [if_neg hm])
    clear hn hr hv hx hm
    go_enter Try.func7, Try.ntmps7
    go_wp2_with fail
    refine (sane_any _).mono ?_; rintro e w1 ⟨rfl, hb1⟩
    have hS := Lib.hid hb1; clear hb1
    go_wp2_with fail
    refine (elm_c n n 0 _ e1.out e2.out).mono ?_; rintro e w' ⟨rfl, rfl⟩
    go_wp2_with fail
    refine (num_c n n 0 _ n1.out n2.out).mono ?_; rintro e w' ⟨rfl, rfl⟩
    go_wp2_with fail
    refine (val_c n true _ HX.out).mono ?_; rintro e w' ⟨rfl, rfl⟩
    go_wp2_with fail
    refine (elm_c m 0 1 _ y1.out y2.out).mono ?_; rintro e w' ⟨rfl, rfl⟩
    go_wp2_with fail
    refine (num_c n n 0 _ n1.out n2.out).mono ?_; rintro e w' ⟨rfl, rfl⟩
    go_wp2_with fail
    refine (val_c n true _ HV.out).mono ?_; rintro e w' ⟨rfl, rfl⟩
    go_wp2_with fail
    refine (elm_c n n 0 _ e1.out e2.out).mono ?_; rintro e w' ⟨rfl, rfl⟩
    go_wp2_with fail
    go_ret
    exact ⟨rfl, hS.out⟩

set_option maxRecDepth 100000 in
set_option maxHeartbeats 2000000 in
theorem groupInverse_no (n m : Int) (w : World) (h1 : 1 ≤ n) (h2 : n ≤ 1073741789) (hv : elB n = false) :
    Calls Try.prog 7 #[.int .i64 n, .int .i64 m] w fun e w' => e = .returned (.bool true) ∧ Below w.heap.size w w' := by
  have HV := Lib.hid hv
  have hx : elmZ n = (2147483579 - n) := by unfold elmZ; rw [if_pos ⟨h1, h2⟩, hv]; rfl
  have e1 := Lib.hid hx
  have e2 := Lib.hid (show elmE n = 0 by unfold elmE; rw [if_pos ⟨h1, h2⟩])
  have hn := num_elm ⟨h1, h2⟩
  have hr := elm_range ⟨h1, h2⟩
  have n1 := Lib.hid (hx ▸ hn.1)
  have n2 := Lib.hid (hx ▸ hn.2)
  have HX := Lib.hid (hx ▸ hr)
  have z1 := Lib.hid (show numZ n = 0 by unfold numZ; rw [hv]; rfl)
  have z2 := Lib.hid (show numE n = 90 by unfold numE; rw [hv]; rfl)
  have hne : ((2147483579 - n) == n) = false := by rw [beq_eq_false_iff_ne]; omega
  by_cases hm : 1 ≤ m ∧ m ≤ 1073741789
  · have y2 := Lib.hid (show elmE m = 0 by unfold elmE; rw [if_pos hm])
    have hi := elm_inj ⟨h1, h2⟩ hm
    rw [hx] at hi
    generalize hy : elmZ m = y at hi
    have y1 := Lib.hid hy
    have HI := Lib.hid hi
    clear hy hi hn hr hv hx hm
    cases hc : (n == m) with
    | true =>
      have hc1 : ((2147483579 - n) == y) = true := by rw [HI.out, hc]
      go_enter Try.func7, Try.ntmps7
      go_wp2_with fail
      refine (sane_any _).mono ?_; rintro e w1 ⟨rfl, hb1⟩
      have hS := Lib.hid hb1; clear hb1
      go_wp2_with fail
      refine (elm_c n (2147483579 - n) 0 _ e1.out e2.out).mono ?_; rintro e w' ⟨rfl, rfl⟩
      go_wp2_with fail
      refine (num_c (2147483579 - n) n 0 _ n1.out n2.out).mono ?_; rintro e w' ⟨rfl, rfl⟩
      go_wp2_with fail
      refine (val_c (2147483579 - n) true _ HX.out).mono ?_; rintro e w' ⟨rfl, rfl⟩
      go_wp2_with fail
      refine (elm_c m y 0 _ y1.out y2.out).mono ?_; rintro e w' ⟨rfl, rfl⟩
      go_wp2_with fail
      refine (num_c n 0 90 _ z1.out z2.out).mono ?_; rintro e w' ⟨rfl, rfl⟩
      go_wp2_with fail
      refine (val_c n false _ HV.out).mono ?_; rintro e w' ⟨rfl, rfl⟩
      go_wp2_with fail
      go_ret
      exact ⟨rfl, hS.out⟩
    | false =>
      have hc1 : ((2147483579 - n) == y) = false := by rw [HI.out, hc]
      go_enter Try.func7, Try.ntmps7
      go_wp2_with fail
      refine (sane_any _).mono ?_; rintro e w1 ⟨rfl, hb1⟩
      have hS := Lib.hid hb1; clear hb1
      go_wp2_with fail
      refine (elm_c n (2147483579 - n) 0 _ e1.out e2.out).mono ?_; rintro e w' ⟨rfl, rfl⟩
      go_wp2_with fail
      refine (num_c (2147483579 - n) n 0 _ n1.out n2.out).mono ?_; rintro e w' ⟨rfl, rfl⟩
      go_wp2_with fail
      refine (val_c (2147483579 - n) true _ HX.out).mono ?_; rintro e w' ⟨rfl, rfl⟩
      go_wp2_with fail
      refine (elm_c m y 0 _ y1.out y2.out).mono ?_; rintro e w' ⟨rfl, rfl⟩
      go_wp2_with fail
      refine (num_c n 0 90 _ z1.out z2.out).mono ?_; rintro e w' ⟨rfl, rfl⟩
      go_wp2_with fail
      refine (val_c n false _ HV.out).mono ?_; rintro e w' ⟨rfl, rfl⟩
      go_wp2_with fail
      go_ret
      exact ⟨rfl, hS.out⟩
  · have y1 := Lib.hid (show elmZ m = 0 by unfold elmZ; rw [if_neg hm])
    have y2 := Lib.hid (show elmE m = 1 by unfold elmE; rw [if_neg hm])
    clear hn hr hv hx hm
    go_enter Try.func7, Try.ntmps7
    go_wp2_with fail
    refine (sane_any _).mono ?_; rintro e w1 ⟨rfl, hb1⟩
    have hS := Lib.hid hb1; clear hb1
    go_wp2_with fail
    refine (elm_c n (2147483579 - n) 0 _ e1.out e2.out).mono ?_; rintro e w' ⟨rfl, rfl⟩
    go_wp2_with fail
    refine (num_c (2147483579 - n) n 0 _ n1.out n2.out).mono ?_; rintro e w' ⟨rfl, rfl⟩
    go_wp2_with fail
    refine (val_c (2147483579 - n) true _ HX.out).mono ?_; rintro e w' ⟨rfl, rfl⟩
    go_wp2_with fail
    refine (elm_c m 0 1 _ y1.out y2.out).mono ?_; rintro e w' ⟨rfl, rfl⟩
    go_wp2_with fail
    refine (num_c n 0 90 _ z1.out z2.out).mono ?_; rintro e w' ⟨rfl, rfl⟩
    go_wp2_with fail
    refine (val_c n false _ HV.out).mono ?_; rintro e w' ⟨rfl, rfl⟩
    go_wp2_with fail
    go_ret
    exact ⟨rfl, hS.out⟩

theorem groupInverse_walk (n m : Int) (_ : (Lit.int .i64 n).wf = true) (_ : (Lit.int .i64 m).wf = true) (w : World) :
    Calls Try.prog 7 #[.int .i64 n, .int .i64 m] w fun e w' => e = .returned (.bool true) ∧ Below w.heap.size w w' := by
  by_cases h : 1 ≤ n ∧ n ≤ 1073741789
  · cases hv : elB n with
    | true => exact groupInverse_yes n m w h.1 h.2 hv
    | false => exact groupInverse_no n m w h.1 h.2 hv
  · exact groupInverse_out n m w h

namespace groupInverse
theorem readable : ∀ t ∈ Try.f7.params.toList, Try.prog.readableRec t = true ∧ t < Try.prog.types.size := by
  rw [Try.params7]
  intro t ht
  simp only [List.mem_cons, List.not_mem_nil, or_false] at ht
  rcases ht with rfl | rfl
  all_goals exact ⟨by kernel_rfl, by decide +kernel⟩

set_option maxRecDepth 100000 in
theorem lifted (os : Os) (started : os.Started) (H : Type) (enc : TypeId × Value → H) :
    ReturnsInHanded {} Try.checked os 7 .any (Rows.groupInverseSpec.pre6 enc Try.prog Try.f7 Rows.groupInverseRow.domain false) (Rows.groupInverseSpec.post enc Try.prog Try.f7 false true false false) := by
  refine returnsInHanded_of_change (C := Try.checked) own_knob started (by kernel_rfl) Try.func7
    (ChangeSpec.witness6 (enc := enc) (C := Try.checked) false ⟨#[], #[.int .i64 0, .int .i64 0], []⟩ 8 (by kernel_rfl) (by kernel_rfl) (by kernel_rfl) (by kernel_rfl)) ?_
  intro W base args ds gs before hval0 hW hcnd _
  have hval : ∀ (j : Nat) t v, Try.f7.params[j]? = some t → args[j]? = some v → Value.okWide Try.prog W .any base t v := hval0
  have hW' := hW
  obtain ⟨p, q, hA0, hV, rfl, hfz, hnd⟩ := hW
  have hA : DataW.TrodAll enc Try.prog W 0 (fun _ => true) true Try.f7.params.toList args.toList ds p := hA0
  rw [Try.params7] at hA hval
  obtain ⟨v0, vs0, d0, ds0, p0, q0, hargs, rfl, rfl, h0, r0⟩ := trodAll_cons hA
  obtain ⟨v1, vs1, d1, ds1, p1, q1, rfl, rfl, rfl, h1, r1⟩ := trodAll_cons r0
  obtain ⟨rfl, rfl, rfl⟩ := trodAll_nil r1
  obtain rfl : args = #[v0, v1] := by cases args; simp_all
  obtain ⟨rfl, rfl⟩ := trodVars_none hV
  obtain ⟨a0, rfl, rfl, rfl, w0⟩ := open_int Try.underlying3 (hval 0 3 v0 rfl rfl) h0
  obtain ⟨a1, rfl, rfl, rfl, w1⟩ := open_int Try.underlying3 (hval 1 3 v1 rfl rfl) h1
  clear hA0 hval0
  refine (groupInverse_walk a0 a1 w0 w1 W).mono fun e W' ⟨he, hb⟩ => ?_
  subst he
  exact ⟨_, rfl, law_post laid_out readable rfl rfl Try.underlying4 hW' rfl rfl rfl hb⟩

theorem over : Rows.groupInverseRow.holds Try.pinned (OpenSpec.ofChange Rows.groupInverseSpec) :=
  OpenClaim.holds_of_wide 7 Try.f7 rfl rfl rfl rfl rfl rfl rfl ⟨rfl, rfl, rfl, rfl, rfl⟩ rfl rfl rfl rfl rfl (by kernel_rfl) Try.func7 (by kernel_rfl)
    (of_decide_eq_true (by kernel_rfl)) (by unfold Func.isWrapper; first | (rw [if_pos (by decide +kernel)]; kernel_rfl) | (rw [if_neg (by decide +kernel)]; exact ⟨rfl, rfl⟩))
    (fun os started H enc _ => lifted os started H enc)

/-- the statement -/
theorem proved : Rows.GroupInverseSaid := over
end groupInverse
end Go.Proofs.Ytlniibplocnipaa
