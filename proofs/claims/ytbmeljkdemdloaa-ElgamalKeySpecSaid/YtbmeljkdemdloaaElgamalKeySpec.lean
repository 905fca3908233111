/- For every secret and list of keys, Public and Join return what the reference of layer 10 returns. No condition. -/
import Derived.Test.YtbmeljkdemdloaaElgArg
namespace Go.Proofs.Ytbmeljkdemdloaa
open Go.ChangeShapes Go.WideShapes Go.ChangeAt Go.RowKit
set_option linter.unusedVariables false

set_option maxRecDepth 100000 in
set_option maxHeartbeats 2000000 in
theorem elgamalKeySpec_walk (s : Int) (p : Option Addr) (n cap : Nat) (zs : List Int) (w : World) (_ : (Lit.int .i64 s).wf = true) (hz : IntsV w p n cap zs) (_ : ∀ z ∈ zs, (Lit.int .i64 z).wf = true) :
    Calls Try.prog 3 #[.int .i64 s, .slice p n cap] w fun e w' => e = .returned (.bool true) ∧ Below w.heap.size w w' := by
  have HZ := Lib.hid hz
  have hn := hz.2.1
  clear hz
  by_cases h20 : n ≤ 20
  · go_enter Try.func3, Try.ntmps3
    go_wp2_with fail
    refine (sane10_any _).mono ?_; rintro e w1 ⟨rfl, hb1⟩
    have h1 := Lib.hid hb1; clear hb1
    go_wp2_with fail
    refine (public_any _ _).mono ?_; rintro e w2 ⟨rfl, hb2⟩
    have h2 := Lib.hid (bel_trans h1.out hb2); clear hb2
    go_wp2_with fail
    refine (rpublic_any _ _).mono ?_; rintro e w' ⟨rfl, rfl⟩
    go_wp2_with fail
    refine (joinV_any _ _ _ zs _ (HZ.out.below h2.out)).mono ?_; rintro e w3 ⟨rfl, hb3⟩
    have h3 := Lib.hid (bel_trans h2.out hb3); clear hb3
    go_wp2_with fail
    refine (rjoin_any _ _ _ zs _ (HZ.out.below h3.out)).mono ?_; rintro e w' ⟨rfl, rfl⟩
    go_wp2_with fail
    go_ret
    exact ⟨rfl, h3.out⟩
  · go_enter Try.func3, Try.ntmps3
    go_wp2_with fail
    refine (sane10_any _).mono ?_; rintro e w1 ⟨rfl, hb1⟩
    have h1 := Lib.hid hb1; clear hb1
    go_wp2_with fail
    go_ret
    exact ⟨rfl, h1.out⟩

namespace elgamalKeySpec
theorem readable : ∀ t ∈ Try.f3.params.toList, Try.prog.readableRec t = true ∧ t < Try.prog.types.size := by
  rw [Try.params3]
  intro t ht
  simp only [List.mem_cons, List.not_mem_nil, or_false] at ht
  rcases ht with rfl | rfl
  all_goals exact ⟨by kernel_rfl, by decide +kernel⟩

set_option maxRecDepth 100000 in
theorem lifted (os : Os) (started : os.Started) (H : Type) (enc : TypeId × Value → H) :
    ReturnsInHanded {} Try.checked os 3 .any (Rows.elgamalKeySpecSpec.pre6 enc Try.prog Try.f3 Rows.elgamalKeySpecRow.domain false) (Rows.elgamalKeySpecSpec.post enc Try.prog Try.f3 false true false false) := by
  refine returnsInHanded_of_change (C := Try.checked) own_knob started (by kernel_rfl) Try.func3
    (ChangeSpec.witness6 (enc := enc) (C := Try.checked) false ⟨#[], #[.int .i64 0, .slice none 0 0], []⟩ 8 (by kernel_rfl) (by kernel_rfl) (by kernel_rfl) (by kernel_rfl)) ?_
  intro W base args ds gs before hval0 hW hcnd _
  have hval : ∀ (j : Nat) t v, Try.f3.params[j]? = some t → args[j]? = some v → Value.okWide Try.prog W .any base t v := hval0
  have hW' := hW
  obtain ⟨p, q, hA0, hV, rfl, hfz, hnd⟩ := hW
  have hA : DataW.TrodAll enc Try.prog W 0 (fun _ => true) true Try.f3.params.toList args.toList ds p := hA0
  rw [Try.params3] at hA hval
  obtain ⟨v0, vs0, d0, ds0, p0, q0, hargs, rfl, rfl, h0, r0⟩ := trodAll_cons hA
  obtain ⟨v1, vs1, d1, ds1, p1, q1, rfl, rfl, rfl, h1, r1⟩ := trodAll_cons r0
  obtain ⟨rfl, rfl, rfl⟩ := trodAll_nil r1
  obtain rfl : args = #[v0, v1] := by cases args; simp_all
  obtain ⟨rfl, rfl⟩ := trodVars_none hV
  obtain ⟨a0, rfl, rfl, rfl, w0⟩ := open_int Try.underlying3 (hval 0 3 v0 rfl rfl) h0
  obtain ⟨s1, n1, c1, z1, rfl, w1, wz1⟩ := open_intsV Try.underlying22 Try.underlying3 (by kernel_rfl) (hval 1 22 v1 rfl rfl) h1
  clear hA0 hval0
  refine (elgamalKeySpec_walk a0 s1 n1 c1 z1 W w0 w1 wz1).mono fun e W' ⟨he, hb⟩ => ?_
  subst he
  exact ⟨_, rfl, law_post laid_out readable rfl rfl Try.underlying4 hW' rfl rfl rfl hb⟩

theorem over : Rows.elgamalKeySpecRow.holds Try.pinned (OpenSpec.ofChange Rows.elgamalKeySpecSpec) :=
  OpenClaim.holds_of_wide 3 Try.f3 rfl rfl rfl rfl rfl rfl rfl ⟨rfl, rfl, rfl, rfl, rfl⟩ rfl rfl rfl rfl rfl (by kernel_rfl) Try.func3 (by kernel_rfl)
    (of_decide_eq_true (by kernel_rfl)) (by unfold Func.isWrapper; first | (rw [if_pos (by decide +kernel)]; kernel_rfl) | (rw [if_neg (by decide +kernel)]; exact ⟨rfl, rfl⟩))
    (fun os started H enc _ => lifted os started H enc)

/-- the statement -/
theorem proved : Rows.ElgamalKeySpecSaid := over
end elgamalKeySpec
end Go.Proofs.Ytbmeljkdemdloaa
