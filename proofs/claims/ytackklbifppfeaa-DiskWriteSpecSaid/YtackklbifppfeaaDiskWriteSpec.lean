/- For every disk, number and bytes, Read and Write agree with the reference. No condition. -/
import Derived.Test.YtackklbifppfeaaDskFrm
import Derived.Deep.DeepCutAuto
namespace Go.Proofs.Ytackklbifppfeaa
open Go.ChangeShapes Go.WideShapes Go.ChangeAt Go.RowKit Go.WideElems
set_option linter.unusedVariables false
set_option linter.unusedSimpArgs false

set_option maxRecDepth 100000 in
set_option maxHeartbeats 4000000 in
theorem diskWriteSpec_walk (d : Dk) (k : Int) (r : Rw) (w : World) (D1 : Hid (DkOk w d)) (hr : Hid (RwOk w r)) : Calls Try.prog 4 #[.agg d.c, .int .i64 k, r.v] w fun e w' => e = .returned (.bool true) ∧ Below w.heap.size w w' := by
  go_enter Try.func4, Try.ntmps4
  have BB := Lib.hid (Below.refl w.heap.size w)
  obtain ⟨pb, mb, cb, bs⟩ := r
  have RB := Lib.hid hr.out.1
  have HBY := Lib.hid hr.out.2.1
  have hm1 := hr.out.2.2.1
  have hm2 := hr.out.2.2.2.1
  have hm3 := hr.out.2.2.2.2
  dsimp only at RB HBY hm1 hm2 hm3
  clear hr
  have hb := bel_alloc1 w (.cells d.c 25)
  replace D1 := Lib.hid (D1.out.below hb)
  replace RB := Lib.hid (RB.out.below hb)
  replace BB := Lib.hid (BB.out.trans ((hb).mono BB.out.size))
  clear hb
  have V3 := Lib.hid (Blk.new w d.c 25)
  go_upto_region 1 with fail
  generalize World.alloc w _ = W1 at BB D1 RB V3 ⊢
  generalize w.heap.size = nV3 at V3 ⊢
  go_wp2_with fail
  refine (sane_any _).mono ?_
  rintro e W2 ⟨rfl, hb⟩
  replace D1 := Lib.hid (D1.out.below hb)
  replace RB := Lib.hid (RB.out.below hb)
  replace V3 := Lib.hid (V3.out.below hb V3.out.lt)
  replace BB := Lib.hid (BB.out.trans ((hb).mono BB.out.size))
  clear hb
  have cV30 := V3.out.cell 0
  have cV31 := V3.out.cell 1
  have cV32 := V3.out.cell 2
  have cV33 := V3.out.cell 3
  have lV3 := V3.out.lt
  go_wp2_with fail
  refine (few_L d _ D1).mono ?_
  rintro e W3 ⟨⟨q, rfl⟩, hb⟩
  replace D1 := Lib.hid (D1.out.below hb)
  replace RB := Lib.hid (RB.out.below hb)
  replace V3 := Lib.hid (V3.out.below hb V3.out.lt)
  replace BB := Lib.hid (BB.out.trans ((hb).mono BB.out.size))
  clear hb
  clear cV30 cV31 cV32 cV33 lV3
  cases q with
  | false =>
    go_wp2_with fail
    go_ret
    exact ⟨rfl, BB.out⟩
  | true =>
    by_cases hb : 1000 < mb
    case pos =>
      go_wp2_with fail
      go_ret
      exact ⟨rfl, BB.out⟩
    case neg =>
      have cV30 := V3.out.cell 0
      have cV31 := V3.out.cell 1
      have cV32 := V3.out.cell 2
      have cV33 := V3.out.cell 3
      have lV3 := V3.out.lt
      go_wp2_with fail
      refine (write_X d k pb mb cb bs _ D1 RB HBY hm1).mono ?_
      rintro e W4 ⟨⟨x, ex, rfl, hd, hf, hs⟩, hb⟩
      replace D1 := Lib.hid (D1.out.below hb)
      replace RB := Lib.hid (RB.out.below hb)
      replace V3 := Lib.hid (V3.out.below hb V3.out.lt)
      replace BB := Lib.hid (BB.out.trans ((hb).mono BB.out.size))
      clear hb
      have DX := Lib.hid hd
      have FX := Lib.hid hf
      clear hd hf hs
      clear cV30 cV31 cV32 cV33 lV3
      have hb := bel_alloc1 W4 (.cells x.c 25)
      replace D1 := Lib.hid (D1.out.below hb)
      replace RB := Lib.hid (RB.out.below hb)
      replace V3 := Lib.hid (V3.out.below hb V3.out.lt)
      replace DX := Lib.hid (DX.out.below hb)
      replace BB := Lib.hid (BB.out.trans ((hb).mono BB.out.size))
      clear hb
      have V7 := Lib.hid (Blk.new W4 x.c 25)
      go_upto_region 6 with fail
      generalize World.alloc W4 _ = W5 at BB D1 RB V3 DX V7 ⊢
      generalize W4.heap.size = nV7 at V7 ⊢
      have cV30 := V3.out.cell 0
      have cV31 := V3.out.cell 1
      have cV32 := V3.out.cell 2
      have cV33 := V3.out.cell 3
      have lV3 := V3.out.lt
      go_wp2_with fail
      refine (rwrite_X d k pb mb cb bs _ D1 RB HBY hm1).mono ?_
      rintro e W6 ⟨⟨y, ey, rfl, hd, hf, hs⟩, hb⟩
      replace D1 := Lib.hid (D1.out.below hb)
      replace RB := Lib.hid (RB.out.below hb)
      replace V3 := Lib.hid (V3.out.below hb V3.out.lt)
      replace DX := Lib.hid (DX.out.below hb)
      replace V7 := Lib.hid (V7.out.below hb V7.out.lt)
      replace BB := Lib.hid (BB.out.trans ((hb).mono BB.out.size))
      clear hb
      have DY := Lib.hid hd
      have FY := Lib.hid hf
      clear hd hf hs
      clear cV30 cV31 cV32 cV33 lV3
      have hb := bel_alloc1 W6 (.cells y.c 25)
      replace D1 := Lib.hid (D1.out.below hb)
      replace RB := Lib.hid (RB.out.below hb)
      replace V3 := Lib.hid (V3.out.below hb V3.out.lt)
      replace DX := Lib.hid (DX.out.below hb)
      replace V7 := Lib.hid (V7.out.below hb V7.out.lt)
      replace DY := Lib.hid (DY.out.below hb)
      replace BB := Lib.hid (BB.out.trans ((hb).mono BB.out.size))
      clear hb
      have V9 := Lib.hid (Blk.new W6 y.c 25)
      go_upto_region 7 with fail
      generalize World.alloc W6 _ = W7 at BB D1 RB V3 DX V7 DY V9 ⊢
      generalize W6.heap.size = nV9 at V9 ⊢
      have cV30 := V3.out.cell 0
      have cV31 := V3.out.cell 1
      have cV32 := V3.out.cell 2
      have cV33 := V3.out.cell 3
      have lV3 := V3.out.lt
      go_wp2_with fail
      refine (read_X d k _ D1).mono ?_
      rintro e W8 ⟨⟨q1, m1, c1, bs1, e1, rfl, hsr, hx1⟩, hb⟩
      replace D1 := Lib.hid (D1.out.below hb)
      replace RB := Lib.hid (RB.out.below hb)
      replace V3 := Lib.hid (V3.out.below hb V3.out.lt)
      replace DX := Lib.hid (DX.out.below hb)
      replace V7 := Lib.hid (V7.out.below hb V7.out.lt)
      replace DY := Lib.hid (DY.out.below hb)
      replace V9 := Lib.hid (V9.out.below hb V9.out.lt)
      replace BB := Lib.hid (BB.out.trans ((hb).mono BB.out.size))
      clear hb
      have S1 := Lib.hid hsr
      have X1 := Lib.hid hx1
      clear hsr hx1
      clear cV30 cV31 cV32 cV33 lV3
      have cV30 := V3.out.cell 0
      have cV31 := V3.out.cell 1
      have cV32 := V3.out.cell 2
      have cV33 := V3.out.cell 3
      have lV3 := V3.out.lt
      go_wp2_with fail
      refine (rread_X d k _ D1).mono ?_
      rintro e W9 ⟨⟨q2, m2, c2, bs2, e2, rfl, hsr, hx2⟩, hb⟩
      replace D1 := Lib.hid (D1.out.below hb)
      replace RB := Lib.hid (RB.out.below hb)
      replace V3 := Lib.hid (V3.out.below hb V3.out.lt)
      replace DX := Lib.hid (DX.out.below hb)
      replace V7 := Lib.hid (V7.out.below hb V7.out.lt)
      replace DY := Lib.hid (DY.out.below hb)
      replace V9 := Lib.hid (V9.out.below hb V9.out.lt)
      replace S1 := Lib.hid (S1.out.below hb)
      replace BB := Lib.hid (BB.out.trans ((hb).mono BB.out.size))
      clear hb
      have S2 := Lib.hid hsr
      have X2 := Lib.hid hx2
      clear hsr hx2
      clear cV30 cV31 cV32 cV33 lV3
      obtain ⟨hal, rfl⟩ := writeX_same DX.out DY.out FX.out FY.out
      have AL := Lib.hid hal
      clear hal
      obtain ⟨rfl, rfl⟩ := readX_same X1.out X2.out
      have cV70 := V7.out.cell 0
      have cV71 := V7.out.cell 1
      have cV72 := V7.out.cell 2
      have cV73 := V7.out.cell 3
      have lV7 := V7.out.lt
      have cV90 := V9.out.cell 0
      have cV91 := V9.out.cell 1
      have cV92 := V9.out.cell 2
      have cV93 := V9.out.cell 3
      have lV9 := V9.out.lt
      go_wp2_with fail
      refine (same_L x y _ DX DY AL).mono ?_
      rintro e W10 ⟨rfl, hb⟩
      replace D1 := Lib.hid (D1.out.below hb)
      replace RB := Lib.hid (RB.out.below hb)
      replace V3 := Lib.hid (V3.out.below hb V3.out.lt)
      replace DX := Lib.hid (DX.out.below hb)
      replace V7 := Lib.hid (V7.out.below hb V7.out.lt)
      replace DY := Lib.hid (DY.out.below hb)
      replace V9 := Lib.hid (V9.out.below hb V9.out.lt)
      replace S1 := Lib.hid (S1.out.below hb)
      replace S2 := Lib.hid (S2.out.below hb)
      replace BB := Lib.hid (BB.out.trans ((hb).mono BB.out.size))
      clear hb
      clear cV70 cV71 cV72 cV73 lV7
      clear cV90 cV91 cV92 cV93 lV9
      have cv1 := conv_srcW S1.out
      have cv2 := conv_srcW S2.out
      go_wp2_with fail
      go_ret
      exact ⟨rfl, BB.out⟩

namespace diskWriteSpec
theorem readable : ∀ t ∈ Try.f4.params.toList, Try.prog.readableRec t = true ∧ t < Try.prog.types.size := by
  rw [Try.params4]
  intro t ht
  simp only [List.mem_cons, List.not_mem_nil, or_false] at ht
  rcases ht with rfl | rfl | rfl
  all_goals exact ⟨by kernel_rfl, by decide +kernel⟩

set_option maxRecDepth 100000 in
theorem lifted (os : Os) (started : os.Started) (H : Type) (enc : TypeId × Value → H) :
    ReturnsInHanded {} Try.checked os 4 .any (Rows.diskWriteSpecSpec.pre6 enc Try.prog Try.f4 Rows.diskWriteSpecRow.domain false) (Rows.diskWriteSpecSpec.post enc Try.prog Try.f4 false true false false) := by
  refine returnsInHanded_of_change (C := Try.checked) own_knob started (by kernel_rfl) Try.func4
    (ChangeSpec.witness6 (enc := enc) (C := Try.checked) false ⟨#[], #[.agg #[.slice none 0 0, .slice none 0 0, .int .i64 0, .bool false], .int .i64 0, .slice none 0 0], []⟩ 8 (by kernel_rfl) (by kernel_rfl) (by kernel_rfl) (by kernel_rfl)) ?_
  intro W base args ds gs before hval0 hW hcnd _
  have hval : ∀ (j : Nat) t v, Try.f4.params[j]? = some t → args[j]? = some v → Value.okWide Try.prog W .any base t v := hval0
  have hW' := hW
  obtain ⟨p, q, hA0, hV, rfl, hfz, hnd⟩ := hW
  have hA : DataW.TrodAll enc Try.prog W 0 (fun _ => true) true Try.f4.params.toList args.toList ds p := hA0
  rw [Try.params4] at hA hval
  obtain ⟨v0, vs0, d0, ds0, p0, q0, hargs, rfl, rfl, h0, r0⟩ := trodAll_cons hA
  obtain ⟨v1, vs1, d1, ds1, p1, q1, rfl, rfl, rfl, h1, r1⟩ := trodAll_cons r0
  obtain ⟨v2, vs2, d2, ds2, p2, q2, rfl, rfl, rfl, h2, r2⟩ := trodAll_cons r1
  obtain ⟨rfl, rfl, rfl⟩ := trodAll_nil r2
  obtain rfl : args = #[v0, v1, v2] := by cases args; simp_all
  obtain ⟨rfl, rfl⟩ := trodVars_none hV
  obtain ⟨k0, rfl, hk0⟩ := open_dk (hval 0 25 v0 rfl rfl) h0
  obtain ⟨a1, rfl, rfl, rfl, w1⟩ := open_int Try.underlying3 (hval 1 3 v1 rfl rfl) h1
  obtain ⟨k2, rfl, hk2⟩ := open_row (hval 2 35 v2 rfl rfl) h2
  clear hA0 hval0
  refine (diskWriteSpec_walk k0 a1 k2 W (Lib.hid hk0) (Lib.hid hk2)).mono fun e W' ⟨he, hb⟩ => ?_
  subst he
  exact ⟨_, rfl, law_post laid_out readable rfl rfl Try.underlying4 hW' rfl rfl rfl hb⟩

theorem over : Rows.diskWriteSpecRow.holds Try.pinned (OpenSpec.ofChange Rows.diskWriteSpecSpec) :=
  OpenClaim.holds_of_wide 4 Try.f4 rfl rfl rfl rfl rfl rfl rfl ⟨rfl, rfl, rfl, rfl, rfl⟩ rfl rfl rfl rfl rfl (by kernel_rfl) Try.func4 (by kernel_rfl)
    (of_decide_eq_true (by kernel_rfl)) (by unfold Func.isWrapper; first | (rw [if_pos (by decide +kernel)]; kernel_rfl) | (rw [if_neg (by decide +kernel)]; exact ⟨rfl, rfl⟩))
    (fun os started H enc _ => lifted os started H enc)

/-- the statement -/
theorem proved : Rows.DiskWriteSpecSaid := over
end diskWriteSpec
end Go.Proofs.Ytackklbifppfeaa
