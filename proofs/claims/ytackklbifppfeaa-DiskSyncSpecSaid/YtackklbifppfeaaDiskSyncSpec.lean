/- For every disk and number, Sync and Stop agree with the reference. No condition. -/
import Derived.Test.YtackklbifppfeaaDskFrm
import Derived.Deep.DeepCutAuto
namespace Go.Proofs.Ytackklbifppfeaa
open Go.ChangeShapes Go.WideShapes Go.ChangeAt Go.RowKit Go.WideElems
set_option linter.unusedVariables false
set_option linter.unusedSimpArgs false

set_option maxRecDepth 100000 in
set_option maxHeartbeats 4000000 in
theorem diskSyncSpec_walk (d : Dk) (k : Int) (w : World) (D1 : Hid (DkOk w d)) : Calls Try.prog 5 #[.agg d.c, .int .i64 k] w fun e w' => e = .returned (.bool true) ∧ Below w.heap.size w w' := by
  go_enter Try.func5, Try.ntmps5
  have BB := Lib.hid (Below.refl w.heap.size w)
  have hb := bel_alloc1 w (.cells d.c 25)
  replace D1 := Lib.hid (D1.out.below hb)
  replace BB := Lib.hid (BB.out.trans ((hb).mono BB.out.size))
  clear hb
  have V3 := Lib.hid (Blk.new w d.c 25)
  go_upto_region 1 with fail
  generalize World.alloc w _ = W1 at BB D1 V3 ⊢
  generalize w.heap.size = nV3 at V3 ⊢
  go_wp2_with fail
  refine (sane_any _).mono ?_
  rintro e W2 ⟨rfl, hb⟩
  replace D1 := Lib.hid (D1.out.below hb)
  replace V3 := Lib.hid (V3.out.below hb V3.out.lt)
  replace BB := Lib.hid (BB.out.trans ((hb).mono BB.out.size))
  clear hb
  have cV30 := V3.out.cell 0
  have cV31 := V3.out.cell 1
  have cV32 := V3.out.cell 2
  have cV33 := V3.out.cell 3
  have lV3 := V3.out.lt
  go_wp2_with fail
  refine (few_L d _ D1).mono ?_
  rintro e W3 ⟨⟨q, rfl⟩, hb⟩
  replace D1 := Lib.hid (D1.out.below hb)
  replace V3 := Lib.hid (V3.out.below hb V3.out.lt)
  replace BB := Lib.hid (BB.out.trans ((hb).mono BB.out.size))
  clear hb
  clear cV30 cV31 cV32 cV33 lV3
  cases q with
  | false =>
    go_wp2_with fail
    go_ret
    exact ⟨rfl, BB.out⟩
  | true =>
    have cV30 := V3.out.cell 0
    have cV31 := V3.out.cell 1
    have cV32 := V3.out.cell 2
    have cV33 := V3.out.cell 3
    have lV3 := V3.out.lt
    go_wp2_with fail
    refine (sync_X d _ D1).mono ?_
    rintro e W4 ⟨⟨x, ex, rfl, hd, hf, hs⟩, hb⟩
    replace D1 := Lib.hid (D1.out.below hb)
    replace V3 := Lib.hid (V3.out.below hb V3.out.lt)
    replace BB := Lib.hid (BB.out.trans ((hb).mono BB.out.size))
    clear hb
    have Dx := Lib.hid hd
    have Fx := Lib.hid hf
    clear hd hf hs
    clear cV30 cV31 cV32 cV33 lV3
    have hb := bel_alloc1 W4 (.cells x.c 25)
    replace D1 := Lib.hid (D1.out.below hb)
    replace V3 := Lib.hid (V3.out.below hb V3.out.lt)
    replace Dx := Lib.hid (Dx.out.below hb)
    replace BB := Lib.hid (BB.out.trans ((hb).mono BB.out.size))
    clear hb
    have V5 := Lib.hid (Blk.new W4 x.c 25)
    go_upto_region 6 with fail
    generalize World.alloc W4 _ = W5 at BB D1 V3 Dx V5 ⊢
    generalize W4.heap.size = nV5 at V5 ⊢
    have cV30 := V3.out.cell 0
    have cV31 := V3.out.cell 1
    have cV32 := V3.out.cell 2
    have cV33 := V3.out.cell 3
    have lV3 := V3.out.lt
    go_wp2_with fail
    refine (rsync_X d _ D1).mono ?_
    rintro e W6 ⟨⟨y, ey, rfl, hd, hf, hs⟩, hb⟩
    replace D1 := Lib.hid (D1.out.below hb)
    replace V3 := Lib.hid (V3.out.below hb V3.out.lt)
    replace Dx := Lib.hid (Dx.out.below hb)
    replace V5 := Lib.hid (V5.out.below hb V5.out.lt)
    replace BB := Lib.hid (BB.out.trans ((hb).mono BB.out.size))
    clear hb
    have Dy := Lib.hid hd
    have Fy := Lib.hid hf
    clear hd hf hs
    clear cV30 cV31 cV32 cV33 lV3
    have hb := bel_alloc1 W6 (.cells y.c 25)
    replace D1 := Lib.hid (D1.out.below hb)
    replace V3 := Lib.hid (V3.out.below hb V3.out.lt)
    replace Dx := Lib.hid (Dx.out.below hb)
    replace V5 := Lib.hid (V5.out.below hb V5.out.lt)
    replace Dy := Lib.hid (Dy.out.below hb)
    replace BB := Lib.hid (BB.out.trans ((hb).mono BB.out.size))
    clear hb
    have V7 := Lib.hid (Blk.new W6 y.c 25)
    go_upto_region 7 with fail
    generalize World.alloc W6 _ = W7 at BB D1 V3 Dx V5 Dy V7 ⊢
    generalize W6.heap.size = nV7 at V7 ⊢
    have cV30 := V3.out.cell 0
    have cV31 := V3.out.cell 1
    have cV32 := V3.out.cell 2
    have cV33 := V3.out.cell 3
    have lV3 := V3.out.lt
    go_wp2_with fail
    refine (stop_X d k _ D1).mono ?_
    rintro e W8 ⟨⟨u, eu, rfl, hd, hf⟩, hb⟩
    replace D1 := Lib.hid (D1.out.below hb)
    replace V3 := Lib.hid (V3.out.below hb V3.out.lt)
    replace Dx := Lib.hid (Dx.out.below hb)
    replace V5 := Lib.hid (V5.out.below hb V5.out.lt)
    replace Dy := Lib.hid (Dy.out.below hb)
    replace V7 := Lib.hid (V7.out.below hb V7.out.lt)
    replace BB := Lib.hid (BB.out.trans ((hb).mono BB.out.size))
    clear hb
    have Du := Lib.hid hd
    have Fu := Lib.hid hf
    clear hd hf
    clear cV30 cV31 cV32 cV33 lV3
    have hb := bel_alloc1 W8 (.cells u.c 25)
    replace D1 := Lib.hid (D1.out.below hb)
    replace V3 := Lib.hid (V3.out.below hb V3.out.lt)
    replace Dx := Lib.hid (Dx.out.below hb)
    replace V5 := Lib.hid (V5.out.below hb V5.out.lt)
    replace Dy := Lib.hid (Dy.out.below hb)
    replace V7 := Lib.hid (V7.out.below hb V7.out.lt)
    replace Du := Lib.hid (Du.out.below hb)
    replace BB := Lib.hid (BB.out.trans ((hb).mono BB.out.size))
    clear hb
    have V9 := Lib.hid (Blk.new W8 u.c 25)
    go_upto_region 8 with fail
    generalize World.alloc W8 _ = W9 at BB D1 V3 Dx V5 Dy V7 Du V9 ⊢
    generalize W8.heap.size = nV9 at V9 ⊢
    have cV30 := V3.out.cell 0
    have cV31 := V3.out.cell 1
    have cV32 := V3.out.cell 2
    have cV33 := V3.out.cell 3
    have lV3 := V3.out.lt
    go_wp2_with fail
    refine (rstop_X d k _ D1).mono ?_
    rintro e W10 ⟨⟨v, ev, rfl, hd, hf⟩, hb⟩
    replace D1 := Lib.hid (D1.out.below hb)
    replace V3 := Lib.hid (V3.out.below hb V3.out.lt)
    replace Dx := Lib.hid (Dx.out.below hb)
    replace V5 := Lib.hid (V5.out.below hb V5.out.lt)
    replace Dy := Lib.hid (Dy.out.below hb)
    replace V7 := Lib.hid (V7.out.below hb V7.out.lt)
    replace Du := Lib.hid (Du.out.below hb)
    replace V9 := Lib.hid (V9.out.below hb V9.out.lt)
    replace BB := Lib.hid (BB.out.trans ((hb).mono BB.out.size))
    clear hb
    have Dv := Lib.hid hd
    have Fv := Lib.hid hf
    clear hd hf
    clear cV30 cV31 cV32 cV33 lV3
    have hb := bel_alloc1 W10 (.cells v.c 25)
    replace D1 := Lib.hid (D1.out.below hb)
    replace V3 := Lib.hid (V3.out.below hb V3.out.lt)
    replace Dx := Lib.hid (Dx.out.below hb)
    replace V5 := Lib.hid (V5.out.below hb V5.out.lt)
    replace Dy := Lib.hid (Dy.out.below hb)
    replace V7 := Lib.hid (V7.out.below hb V7.out.lt)
    replace Du := Lib.hid (Du.out.below hb)
    replace V9 := Lib.hid (V9.out.below hb V9.out.lt)
    replace Dv := Lib.hid (Dv.out.below hb)
    replace BB := Lib.hid (BB.out.trans ((hb).mono BB.out.size))
    clear hb
    have V11 := Lib.hid (Blk.new W10 v.c 25)
    go_upto_region 9 with fail
    generalize World.alloc W10 _ = W11 at BB D1 V3 Dx V5 Dy V7 Du V9 Dv V11 ⊢
    generalize W10.heap.size = nV11 at V11 ⊢
    obtain ⟨hal, rfl⟩ := syncX_same Dx.out Dy.out Fx.out Fy.out
    have AL := Lib.hid hal
    clear hal
    obtain ⟨hal, rfl⟩ := stopX_same Fu.out Fv.out
    have AM := Lib.hid hal
    clear hal
    have cV50 := V5.out.cell 0
    have cV51 := V5.out.cell 1
    have cV52 := V5.out.cell 2
    have cV53 := V5.out.cell 3
    have lV5 := V5.out.lt
    have cV70 := V7.out.cell 0
    have cV71 := V7.out.cell 1
    have cV72 := V7.out.cell 2
    have cV73 := V7.out.cell 3
    have lV7 := V7.out.lt
    go_wp2_with fail
    refine (same_L x y _ Dx Dy AL).mono ?_
    rintro e W12 ⟨rfl, hb⟩
    replace D1 := Lib.hid (D1.out.below hb)
    replace V3 := Lib.hid (V3.out.below hb V3.out.lt)
    replace Dx := Lib.hid (Dx.out.below hb)
    replace V5 := Lib.hid (V5.out.below hb V5.out.lt)
    replace Dy := Lib.hid (Dy.out.below hb)
    replace V7 := Lib.hid (V7.out.below hb V7.out.lt)
    replace Du := Lib.hid (Du.out.below hb)
    replace V9 := Lib.hid (V9.out.below hb V9.out.lt)
    replace Dv := Lib.hid (Dv.out.below hb)
    replace V11 := Lib.hid (V11.out.below hb V11.out.lt)
    replace BB := Lib.hid (BB.out.trans ((hb).mono BB.out.size))
    clear hb
    clear cV50 cV51 cV52 cV53 lV5
    clear cV70 cV71 cV72 cV73 lV7
    have cV90 := V9.out.cell 0
    have cV91 := V9.out.cell 1
    have cV92 := V9.out.cell 2
    have cV93 := V9.out.cell 3
    have lV9 := V9.out.lt
    have cV110 := V11.out.cell 0
    have cV111 := V11.out.cell 1
    have cV112 := V11.out.cell 2
    have cV113 := V11.out.cell 3
    have lV11 := V11.out.lt
    go_wp2_with fail
    refine (same_L u v _ Du Dv AM).mono ?_
    rintro e W13 ⟨rfl, hb⟩
    replace D1 := Lib.hid (D1.out.below hb)
    replace V3 := Lib.hid (V3.out.below hb V3.out.lt)
    replace Dx := Lib.hid (Dx.out.below hb)
    replace V5 := Lib.hid (V5.out.below hb V5.out.lt)
    replace Dy := Lib.hid (Dy.out.below hb)
    replace V7 := Lib.hid (V7.out.below hb V7.out.lt)
    replace Du := Lib.hid (Du.out.below hb)
    replace V9 := Lib.hid (V9.out.below hb V9.out.lt)
    replace Dv := Lib.hid (Dv.out.below hb)
    replace V11 := Lib.hid (V11.out.below hb V11.out.lt)
    replace BB := Lib.hid (BB.out.trans ((hb).mono BB.out.size))
    clear hb
    go_wp2_with fail
    go_ret
    exact ⟨rfl, BB.out⟩

namespace diskSyncSpec
theorem readable : ∀ t ∈ Try.f5.params.toList, Try.prog.readableRec t = true ∧ t < Try.prog.types.size := by
  rw [Try.params5]
  intro t ht
  simp only [List.mem_cons, List.not_mem_nil, or_false] at ht
  rcases ht with rfl | rfl
  all_goals exact ⟨by kernel_rfl, by decide +kernel⟩

set_option maxRecDepth 100000 in
theorem lifted (os : Os) (started : os.Started) (H : Type) (enc : TypeId × Value → H) :
    ReturnsInHanded {} Try.checked os 5 .any (Rows.diskSyncSpecSpec.pre6 enc Try.prog Try.f5 Rows.diskSyncSpecRow.domain false) (Rows.diskSyncSpecSpec.post enc Try.prog Try.f5 false true false false) := by
  refine returnsInHanded_of_change (C := Try.checked) own_knob started (by kernel_rfl) Try.func5
    (ChangeSpec.witness6 (enc := enc) (C := Try.checked) false ⟨#[], #[.agg #[.slice none 0 0, .slice none 0 0, .int .i64 0, .bool false], .int .i64 0], []⟩ 8 (by kernel_rfl) (by kernel_rfl) (by kernel_rfl) (by kernel_rfl)) ?_
  intro W base args ds gs before hval0 hW hcnd _
  have hval : ∀ (j : Nat) t v, Try.f5.params[j]? = some t → args[j]? = some v → Value.okWide Try.prog W .any base t v := hval0
  have hW' := hW
  obtain ⟨p, q, hA0, hV, rfl, hfz, hnd⟩ := hW
  have hA : DataW.TrodAll enc Try.prog W 0 (fun _ => true) true Try.f5.params.toList args.toList ds p := hA0
  rw [Try.params5] at hA hval
  obtain ⟨v0, vs0, d0, ds0, p0, q0, hargs, rfl, rfl, h0, r0⟩ := trodAll_cons hA
  obtain ⟨v1, vs1, d1, ds1, p1, q1, rfl, rfl, rfl, h1, r1⟩ := trodAll_cons r0
  obtain ⟨rfl, rfl, rfl⟩ := trodAll_nil r1
  obtain rfl : args = #[v0, v1] := by cases args; simp_all
  obtain ⟨rfl, rfl⟩ := trodVars_none hV
  obtain ⟨k0, rfl, hk0⟩ := open_dk (hval 0 25 v0 rfl rfl) h0
  obtain ⟨a1, rfl, rfl, rfl, w1⟩ := open_int Try.underlying3 (hval 1 3 v1 rfl rfl) h1
  clear hA0 hval0
  refine (diskSyncSpec_walk k0 a1 W (Lib.hid hk0)).mono fun e W' ⟨he, hb⟩ => ?_
  subst he
  exact ⟨_, rfl, law_post laid_out readable rfl rfl Try.underlying4 hW' rfl rfl rfl hb⟩

theorem over : Rows.diskSyncSpecRow.holds Try.pinned (OpenSpec.ofChange Rows.diskSyncSpecSpec) :=
  OpenClaim.holds_of_wide 5 Try.f5 rfl rfl rfl rfl rfl rfl rfl ⟨rfl, rfl, rfl, rfl, rfl⟩ rfl rfl rfl rfl rfl (by kernel_rfl) Try.func5 (by kernel_rfl)
    (of_decide_eq_true (by kernel_rfl)) (by unfold Func.isWrapper; first | (rw [if_pos (by decide +kernel)]; kernel_rfl) | (rw [if_neg (by decide +kernel)]; exact ⟨rfl, rfl⟩))
    (fun os started H enc _ => lifted os started H enc)

/-- the statement -/
theorem proved : Rows.DiskSyncSpecSaid := over
end diskSyncSpec
end Go.Proofs.Ytackklbifppfeaa
