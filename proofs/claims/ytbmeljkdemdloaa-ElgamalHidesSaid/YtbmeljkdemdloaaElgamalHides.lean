/- For each cipher that is sealed with a number that is not 0 modulo Q, and each other word, there is a key for which the same cipher says this word. No condition. -/
import Derived.Test.YtbmeljkdemdloaaElgHid0
import Derived.Test.YtbmeljkdemdloaaElgHid1
import Derived.Test.YtbmeljkdemdloaaElgHid2
namespace Go.Proofs.Ytbmeljkdemdloaa
open Go.ChangeShapes Go.WideShapes Go.ChangeAt Go.RowKit Go.Shelf
set_option linter.unusedVariables false

theorem elgamalHides_walk (key n0 n1 n2 p0 p1 p2 o at' : Int) (w : World) (_ : (Lit.int .i64 key).wf = true) (_ : (Lit.int .i64 n0).wf = true) (_ : (Lit.int .i64 n1).wf = true) (_ : (Lit.int .i64 n2).wf = true)
    (wp0 : (Lit.int .i32 p0).wf = true) (wp1 : (Lit.int .i32 p1).wf = true) (wp2 : (Lit.int .i32 p2).wf = true) (_ : (Lit.int .i64 o).wf = true) (wat : (Lit.int .u8 at').wf = true) :
    Calls Try.prog 8 #[.int .i64 key, .agg #[.int .i64 n0, .int .i64 n1, .int .i64 n2], .agg #[.int .i32 p0, .int .i32 p1, .int .i32 p2], .int .i64 o, .int .u8 at'] w fun e w' => e = .returned (.bool true) ∧ Below w.heap.size w w' := by
  have hb : 0 ≤ at' ∧ at' ≤ 255 := bounds_u8 wat
  rcases (by omega : at' % 3 = 0 ∨ at' % 3 = 1 ∨ at' % 3 = 2) with h | h | h
  · exact hides_walk0 key n0 n1 n2 p0 p1 p2 o at' w hb.1 hb.2 h wp0 wp1 wp2
  · exact hides_walk1 key n0 n1 n2 p0 p1 p2 o at' w hb.1 hb.2 h wp0 wp1 wp2
  · exact hides_walk2 key n0 n1 n2 p0 p1 p2 o at' w hb.1 hb.2 h wp0 wp1 wp2

namespace elgamalHides
theorem readable : ∀ t ∈ Try.f8.params.toList, Try.prog.readableRec t = true ∧ t < Try.prog.types.size := by
  rw [Try.params8]
  intro t ht
  simp only [List.mem_cons, List.not_mem_nil, or_false] at ht
  rcases ht with rfl | rfl | rfl | rfl | rfl
  all_goals exact ⟨by kernel_rfl, by decide +kernel⟩

set_option maxRecDepth 100000 in
theorem lifted (os : Os) (started : os.Started) (H : Type) (enc : TypeId × Value → H) :
    ReturnsInHanded {} Try.checked os 8 .any (Rows.elgamalHidesSpec.pre6 enc Try.prog Try.f8 Rows.elgamalHidesRow.domain false) (Rows.elgamalHidesSpec.post enc Try.prog Try.f8 false true false false) := by
  refine returnsInHanded_of_change (C := Try.checked) own_knob started (by kernel_rfl) Try.func8
    (ChangeSpec.witness6 (enc := enc) (C := Try.checked) false ⟨#[], #[.int .i64 0, .agg #[.int .i64 0, .int .i64 0, .int .i64 0], .agg #[.int .i32 0, .int .i32 0, .int .i32 0], .int .i64 0, .int .u8 0], []⟩ 8 (by kernel_rfl) (by kernel_rfl) (by kernel_rfl) (by kernel_rfl)) ?_
  intro W base args ds gs before hval0 hW hcnd _
  have hval : ∀ (j : Nat) t v, Try.f8.params[j]? = some t → args[j]? = some v → Value.okWide Try.prog W .any base t v := hval0
  have hW' := hW
  obtain ⟨p, q, hA0, hV, rfl, hfz, hnd⟩ := hW
  have hA : DataW.TrodAll enc Try.prog W 0 (fun _ => true) true Try.f8.params.toList args.toList ds p := hA0
  rw [Try.params8] at hA hval
  obtain ⟨v0, vs0, d0, ds0, p0, q0, hargs, rfl, rfl, h0, r0⟩ := trodAll_cons hA
  obtain ⟨v1, vs1, d1, ds1, p1, q1, rfl, rfl, rfl, h1, r1⟩ := trodAll_cons r0
  obtain ⟨v2, vs2, d2, ds2, p2, q2, rfl, rfl, rfl, h2, r2⟩ := trodAll_cons r1
  obtain ⟨v3, vs3, d3, ds3, p3, q3, rfl, rfl, rfl, h3, r3⟩ := trodAll_cons r2
  obtain ⟨v4, vs4, d4, ds4, p4, q4, rfl, rfl, rfl, h4, r4⟩ := trodAll_cons r3
  obtain ⟨rfl, rfl, rfl⟩ := trodAll_nil r4
  obtain rfl : args = #[v0, v1, v2, v3, v4] := by cases args; simp_all
  obtain ⟨rfl, rfl⟩ := trodVars_none hV
  obtain ⟨a0, rfl, rfl, rfl, w0⟩ := open_int Try.underlying3 (hval 0 3 v0 rfl rfl) h0
  obtain ⟨a1, b1, c1, rfl, wa1, wb1, wc1⟩ := open_arr3 Try.underlying30 Try.underlying3 (by kernel_rfl) (by kernel_rfl) (hval 1 30 v1 rfl rfl) h1
  obtain ⟨a2, b2, c2, rfl, wa2, wb2, wc2⟩ := open_arr3 Try.underlying51 Try.underlying21 (by kernel_rfl) (by kernel_rfl) (hval 2 51 v2 rfl rfl) h2
  obtain ⟨a3, rfl, rfl, rfl, w3⟩ := open_int Try.underlying3 (hval 3 3 v3 rfl rfl) h3
  obtain ⟨a4, rfl, rfl, rfl, w4⟩ := open_int Try.underlying5 (hval 4 5 v4 rfl rfl) h4
  clear hA0 hval0
  refine (elgamalHides_walk a0 a1 b1 c1 a2 b2 c2 a3 a4 W w0 wa1 wb1 wc1 wa2 wb2 wc2 w3 w4).mono fun e W' ⟨he, hb⟩ => ?_
  subst he
  exact ⟨_, rfl, law_post laid_out readable rfl rfl Try.underlying4 hW' rfl rfl rfl hb⟩

theorem over : Rows.elgamalHidesRow.holds Try.pinned (OpenSpec.ofChange Rows.elgamalHidesSpec) :=
  OpenClaim.holds_of_wide 8 Try.f8 rfl rfl rfl rfl rfl rfl rfl ⟨rfl, rfl, rfl, rfl, rfl⟩ rfl rfl rfl rfl rfl (by kernel_rfl) Try.func8 (by kernel_rfl)
    (of_decide_eq_true (by kernel_rfl)) (by unfold Func.isWrapper; first | (rw [if_pos (by decide +kernel)]; kernel_rfl) | (rw [if_neg (by decide +kernel)]; exact ⟨rfl, rfl⟩))
    (fun os started H enc _ => lifted os started H enc)

/-- the statement -/
theorem proved : Rows.ElgamalHidesSaid := over
end elgamalHides
end Go.Proofs.Ytbmeljkdemdloaa
