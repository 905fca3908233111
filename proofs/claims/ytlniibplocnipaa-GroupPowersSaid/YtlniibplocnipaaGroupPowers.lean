/- Powers to sums, powers of powers, powers of products, for all elements and all int32. No condition. -/
import Derived.Test.YtlniibplocnipaaLawKit
import Derived.Test.YtlniibplocnipaaGroupPows
namespace Go.Proofs.Ytlniibplocnipaa
open Go.ChangeShapes Go.WideShapes Go.ChangeAt Go.RowKit
set_option linter.unusedVariables false

/-- what the law makes -/
structure Pws (a b i k aa ab abi aik aim ai ak bi : Int) : Prop where
  ha : elB a = true
  hb : elB b = true
  hai : elB ai = true
  hak : elB ak = true
  hbi : elB bi = true
  p2 : powZ a 2 = aa
  m2 : mulZ a a = aa
  pq : powZ a 1073741789 = 1
  q1 : powZ a (i + 1073741789) = ai
  q2 : powZ a (i - 1073741789) = ai
  pi : powZ a i = ai
  pk : powZ a k = ak
  m3 : mulZ ai ak = aik
  p3 : powZ a (i + k) = aik
  p4 : powZ ai k = aim
  p5 : powZ a (i * k) = aim
  m4 : mulZ a b = ab
  p6 : powZ ab i = abi
  p7 : powZ b i = bi
  m5 : mulZ ai bi = abi
  z0 : powZ a 0 = 1
  z1 : powZ a 1 = a

theorem pws {a b : Int} (ha : elB a = true) (hb : elB b = true) (i k : Int) : ∃ aa ab abi aik aim ai ak bi, Pws a b i k aa ab abi aik aim ai ak bi :=
  ⟨powZ a 2, mulZ a b, mulZ (powZ a i) (powZ b i), powZ a (i + k), powZ a (i * k), powZ a i, powZ a k, powZ b i, ha, hb, powZ_el ha i, powZ_el ha k, powZ_el hb i, rfl,
    (by have := powZ_add ha 1 1; rw [powZ_one ha] at this; exact this), (by rw [powZ_congr a (show (1073741789 : Int) % 1073741789 = 0 % 1073741789 from rfl)]; exact powZ_zero ha),
    powZ_congr a (by omega), powZ_congr a (by omega), rfl, rfl, powZ_add ha i k, rfl, powZ_mul ha i k, rfl, rfl, powZ_mulb ha hb i, rfl, rfl, powZ_zero ha, powZ_one ha⟩

set_option maxRecDepth 100000 in
set_option maxHeartbeats 4000000 in
theorem groupPowers_go (x y i k a b aa ab abi aik aim ai ak bi : Int) (w : World) (hx : Hid (elt x = a)) (hy : Hid (elt y = b)) (g : Hid (Pws a b i k aa ab abi aik aim ai ak bi)) (i0 : -2147483648 ≤ i) (i1 : i ≤ 2147483647) (k0 : -2147483648 ≤ k) (k1 : k ≤ 2147483647) (ik0 : -4611686018427387904 ≤ i * k) (ik1 : i * k ≤ 4611686018427387904) :
    Calls Try.prog 5 #[.int .i64 x, .int .i64 y, .int .i32 i, .int .i32 k] w fun e w' => e = .returned (.bool true) ∧ Below w.heap.size w w' := by
  go_enter Try.func5, Try.ntmps5
  go_wp2_with fail
  refine (sane_any _).mono ?_; rintro e w1 ⟨rfl, hb1⟩
  have hS1 := Lib.hid hb1; clear hb1
  go_wp2_with fail
  refine (elm_n x a _ hx.out).mono ?_; rintro e w' ⟨rfl, rfl⟩
  go_wp2_with fail
  refine (elm_n y b _ hy.out).mono ?_; rintro e w' ⟨rfl, rfl⟩
  go_wp2_with fail
  refine (lpow_n a (0) 1 _ g.out.z0).mono ?_; rintro e w2 ⟨rfl, hb2⟩
  have hS2 := Lib.hid (bel_trans hS1.out hb2); clear hb2 hS1
  go_wp2_with fail
  refine (lpow_n a (1) a _ g.out.z1).mono ?_; rintro e w3 ⟨rfl, hb3⟩
  have hS3 := Lib.hid (bel_trans hS2.out hb3); clear hb3 hS2
  go_wp2_with fail
  refine (lpow_n a (2) aa _ g.out.p2).mono ?_; rintro e w4 ⟨rfl, hb4⟩
  have hS4 := Lib.hid (bel_trans hS3.out hb4); clear hb4 hS3
  go_wp2_with fail
  refine (lmul_n a a aa _ g.out.ha g.out.ha g.out.m2).mono ?_; rintro e w5 ⟨rfl, hb5⟩
  have hS5 := Lib.hid (bel_trans hS4.out hb5); clear hb5 hS4
  go_wp2_with fail
  refine (lpow_n a (1073741789) 1 _ g.out.pq).mono ?_; rintro e w6 ⟨rfl, hb6⟩
  have hS6 := Lib.hid (bel_trans hS5.out hb6); clear hb6 hS5
  go_wp2_with fail
  refine (lpow_n a (i + 1073741789) ai _ g.out.q1).mono ?_; rintro e w7 ⟨rfl, hb7⟩
  have hS7 := Lib.hid (bel_trans hS6.out hb7); clear hb7 hS6
  go_wp2_with fail
  refine (lpow_n a (i) ai _ g.out.pi).mono ?_; rintro e w8 ⟨rfl, hb8⟩
  have hS8 := Lib.hid (bel_trans hS7.out hb8); clear hb8 hS7
  go_wp2_with fail
  refine (lpow_n a (i - 1073741789) ai _ g.out.q2).mono ?_; rintro e w9 ⟨rfl, hb9⟩
  have hS9 := Lib.hid (bel_trans hS8.out hb9); clear hb9 hS8
  go_wp2_with fail
  refine (lpow_n a (i) ai _ g.out.pi).mono ?_; rintro e w10 ⟨rfl, hb10⟩
  have hS10 := Lib.hid (bel_trans hS9.out hb10); clear hb10 hS9
  go_wp2_with fail
  refine (lpow_n a (i) ai _ g.out.pi).mono ?_; rintro e w11 ⟨rfl, hb11⟩
  have hS11 := Lib.hid (bel_trans hS10.out hb11); clear hb11 hS10
  go_wp2_with fail
  refine (lpow_n a (k) ak _ g.out.pk).mono ?_; rintro e w12 ⟨rfl, hb12⟩
  have hS12 := Lib.hid (bel_trans hS11.out hb12); clear hb12 hS11
  go_wp2_with fail
  refine (lmul_n ai ak aik _ g.out.hai g.out.hak g.out.m3).mono ?_; rintro e w13 ⟨rfl, hb13⟩
  have hS13 := Lib.hid (bel_trans hS12.out hb13); clear hb13 hS12
  go_wp2_with fail
  refine (lpow_n a (i + k) aik _ g.out.p3).mono ?_; rintro e w14 ⟨rfl, hb14⟩
  have hS14 := Lib.hid (bel_trans hS13.out hb14); clear hb14 hS13
  go_wp2_with fail
  refine (lpow_n a (i) ai _ g.out.pi).mono ?_; rintro e w15 ⟨rfl, hb15⟩
  have hS15 := Lib.hid (bel_trans hS14.out hb15); clear hb15 hS14
  go_wp2_with fail
  refine (lpow_n ai (k) aim _ g.out.p4).mono ?_; rintro e w16 ⟨rfl, hb16⟩
  have hS16 := Lib.hid (bel_trans hS15.out hb16); clear hb16 hS15
  go_wp2_with fail
  refine (lpow_n a (i * k) aim _ g.out.p5).mono ?_; rintro e w17 ⟨rfl, hb17⟩
  have hS17 := Lib.hid (bel_trans hS16.out hb17); clear hb17 hS16
  go_wp2_with fail
  refine (lmul_n a b ab _ g.out.ha g.out.hb g.out.m4).mono ?_; rintro e w18 ⟨rfl, hb18⟩
  have hS18 := Lib.hid (bel_trans hS17.out hb18); clear hb18 hS17
  go_wp2_with fail
  refine (lpow_n ab (i) abi _ g.out.p6).mono ?_; rintro e w19 ⟨rfl, hb19⟩
  have hS19 := Lib.hid (bel_trans hS18.out hb19); clear hb19 hS18
  go_wp2_with fail
  refine (lpow_n a (i) ai _ g.out.pi).mono ?_; rintro e w20 ⟨rfl, hb20⟩
  have hS20 := Lib.hid (bel_trans hS19.out hb20); clear hb20 hS19
  go_wp2_with fail
  refine (lpow_n b (i) bi _ g.out.p7).mono ?_; rintro e w21 ⟨rfl, hb21⟩
  have hS21 := Lib.hid (bel_trans hS20.out hb21); clear hb21 hS20
  go_wp2_with fail
  refine (lmul_n ai bi abi _ g.out.hai g.out.hbi g.out.m5).mono ?_; rintro e w22 ⟨rfl, hb22⟩
  have hS22 := Lib.hid (bel_trans hS21.out hb22); clear hb22 hS21
  go_wp2_with fail
  go_ret
  exact ⟨rfl, hS22.out⟩

theorem groupPowers_walk (x y m n : Int) (_ : (Lit.int .i64 x).wf = true) (_ : (Lit.int .i64 y).wf = true) (hm : (Lit.int .i32 m).wf = true) (hn : (Lit.int .i32 n).wf = true) (w : World) :
    Calls Try.prog 5 #[.int .i64 x, .int .i64 y, .int .i32 m, .int .i32 n] w fun e w' => e = .returned (.bool true) ∧ Below w.heap.size w w' := by
  have bm : -2147483648 ≤ m ∧ m ≤ 2147483647 := by simpa [Lit.wf, IntKind.min, IntKind.max, IntKind.signed, IntKind.bits] using hm
  have bn : -2147483648 ≤ n ∧ n ≤ 2147483647 := by simpa [Lit.wf, IntKind.min, IntKind.max, IntKind.signed, IntKind.bits] using hn
  have h : (m * n).natAbs ≤ 2147483648 * 2147483648 := by
    rw [Int.natAbs_mul]; exact Nat.mul_le_mul (by omega) (by omega)
  obtain ⟨aa, ab, abi, aik, aim, ai, ak, bi, g⟩ := pws (elt_el x) (elt_el y) m n
  exact groupPowers_go x y m n _ _ aa ab abi aik aim ai ak bi w rfl rfl g bm.1 bm.2 bn.1 bn.2 (by omega) (by omega)

namespace groupPowers
theorem readable : ∀ t ∈ Try.f5.params.toList, Try.prog.readableRec t = true ∧ t < Try.prog.types.size := by
  rw [Try.params5]
  intro t ht
  simp only [List.mem_cons, List.not_mem_nil, or_false] at ht
  rcases ht with rfl | rfl | rfl | rfl
  all_goals exact ⟨by kernel_rfl, by decide +kernel⟩

set_option maxRecDepth 100000 in
theorem lifted (os : Os) (started : os.Started) (H : Type) (enc : TypeId × Value → H) :
    ReturnsInHanded {} Try.checked os 5 .any (Rows.groupPowersSpec.pre6 enc Try.prog Try.f5 Rows.groupPowersRow.domain false) (Rows.groupPowersSpec.post enc Try.prog Try.f5 false true false false) := by
  refine returnsInHanded_of_change (C := Try.checked) own_knob started (by kernel_rfl) Try.func5
    (ChangeSpec.witness6 (enc := enc) (C := Try.checked) false ⟨#[], #[.int .i64 0, .int .i64 0, .int .i32 0, .int .i32 0], []⟩ 8 (by kernel_rfl) (by kernel_rfl) (by kernel_rfl) (by kernel_rfl)) ?_
  intro W base args ds gs before hval0 hW hcnd _
  have hval : ∀ (j : Nat) t v, Try.f5.params[j]? = some t → args[j]? = some v → Value.okWide Try.prog W .any base t v := hval0
  have hW' := hW
  obtain ⟨p, q, hA0, hV, rfl, hfz, hnd⟩ := hW
  have hA : DataW.TrodAll enc Try.prog W 0 (fun _ => true) true Try.f5.params.toList args.toList ds p := hA0
  rw [Try.params5] at hA hval
  obtain ⟨v0, vs0, d0, ds0, p0, q0, hargs, rfl, rfl, h0, r0⟩ := trodAll_cons hA
  obtain ⟨v1, vs1, d1, ds1, p1, q1, rfl, rfl, rfl, h1, r1⟩ := trodAll_cons r0
  obtain ⟨v2, vs2, d2, ds2, p2, q2, rfl, rfl, rfl, h2, r2⟩ := trodAll_cons r1
  obtain ⟨v3, vs3, d3, ds3, p3, q3, rfl, rfl, rfl, h3, r3⟩ := trodAll_cons r2
  obtain ⟨rfl, rfl, rfl⟩ := trodAll_nil r3
  obtain rfl : args = #[v0, v1, v2, v3] := by cases args; simp_all
  obtain ⟨rfl, rfl⟩ := trodVars_none hV
  obtain ⟨a0, rfl, rfl, rfl, w0⟩ := open_int Try.underlying3 (hval 0 3 v0 rfl rfl) h0
  obtain ⟨a1, rfl, rfl, rfl, w1⟩ := open_int Try.underlying3 (hval 1 3 v1 rfl rfl) h1
  obtain ⟨a2, rfl, rfl, rfl, w2⟩ := open_int Try.underlying21 (hval 2 21 v2 rfl rfl) h2
  obtain ⟨a3, rfl, rfl, rfl, w3⟩ := open_int Try.underlying21 (hval 3 21 v3 rfl rfl) h3
  clear hA0 hval0
  refine (groupPowers_walk a0 a1 a2 a3 w0 w1 w2 w3 W).mono fun e W' ⟨he, hb⟩ => ?_
  subst he
  exact ⟨_, rfl, law_post laid_out readable rfl rfl Try.underlying4 hW' rfl rfl rfl hb⟩

theorem over : Rows.groupPowersRow.holds Try.pinned (OpenSpec.ofChange Rows.groupPowersSpec) :=
  OpenClaim.holds_of_wide 5 Try.f5 rfl rfl rfl rfl rfl rfl rfl ⟨rfl, rfl, rfl, rfl, rfl⟩ rfl rfl rfl rfl rfl (by kernel_rfl) Try.func5 (by kernel_rfl)
    (of_decide_eq_true (by kernel_rfl)) (by unfold Func.isWrapper; first | (rw [if_pos (by decide +kernel)]; kernel_rfl) | (rw [if_neg (by decide +kernel)]; exact ⟨rfl, rfl⟩))
    (fun os started H enc _ => lifted os started H enc)

/-- the statement -/
theorem proved : Rows.GroupPowersSaid := over
end groupPowers
end Go.Proofs.Ytlniibplocnipaa
