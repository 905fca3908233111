/- Seal and Again return what the reference of layer 10 returns. No condition. -/
import Derived.Test.YtbmeljkdemdloaaElgRefD
import Derived.Test.YtbmeljkdemdloaaBlks
namespace Go.Proofs.Ytbmeljkdemdloaa
open Go.ChangeShapes Go.WideShapes Go.ChangeAt Go.RowKit Go.Shelf
set_option linter.unusedVariables false

set_option maxHeartbeats 1000000 in
theorem rseal_any (key n0 n1 n2 r0 r1 r2 : Int) (w : World) (bn0 : -9223372036854775808 ≤ n0 ∧ n0 ≤ 9223372036854775807) (bn1 : -9223372036854775808 ≤ n1 ∧ n1 ≤ 9223372036854775807) (bn2 : -9223372036854775808 ≤ n2 ∧ n2 ≤ 9223372036854775807) :
    Calls Try.prog 16 #[.int .i64 key, .agg #[.int .i64 n0, .int .i64 n1, .int .i64 n2], .agg #[.int .i64 r0, .int .i64 r1, .int .i64 r2]] w
      fun e w' => e = .returned (.tuple #[letV (sealR key n0 n1 n2 r0 r1 r2), .int .i64 (sealE key n0 n1 n2)]) ∧ Below w.heap.size w w' := by
  refine rseal_go key n0 n1 n2 r0 r1 r2 _ _ _ _ _ _ w bn0 bn1 bn2 (Lib.hid rfl) (Lib.hid rfl) (Lib.hid rfl) (Lib.hid rfl) (Lib.hid rfl) (Lib.hid rfl) _ _ (Lib.hid fun hk => ?_) (Lib.hid fun hk hw => ?_) (Lib.hid fun hk hw => ?_)
  · unfold sealR sealE; rw [hk]; exact ⟨rfl, rfl⟩
  · have hw' : (wordB n0 && wordB n1 && wordB n2) = false := hw
    unfold sealR sealE; rw [hk, hw']; exact ⟨rfl, rfl⟩
  · refine ⟨?_, sealE_ok hk hw⟩
    have hw' : (wordB n0 && wordB n1 && wordB n2) = true := hw
    unfold sealR; rw [if_pos hk, if_pos hw', sealL_eq]
    unfold mapL sayL gMask
    simp [nth3, mulZ_one (powZ_el elB_4 _)]

set_option maxHeartbeats 1000000 in
theorem ragain_any (key a0 b0 a1 b1 a2 b2 r0 r1 r2 : Int) (w : World) :
    Calls Try.prog 18 #[.int .i64 key, sealedV a0 b0 a1 b1 a2 b2, .agg #[.int .i64 r0, .int .i64 r1, .int .i64 r2]] w
      fun e w' => e = .returned (.tuple #[letV (againR key r0 r1 r2 ((a0, b0), (a1, b1), (a2, b2))), .int .i64 (againE key ((a0, b0), (a1, b1), (a2, b2)))]) ∧ Below w.heap.size w w' := by
  refine ragain_go key a0 b0 a1 b1 a2 b2 r0 r1 r2 _ _ _ _ _ _ w (Lib.hid rfl) (Lib.hid rfl) (Lib.hid rfl) (Lib.hid rfl) (Lib.hid rfl) (Lib.hid rfl) _ _ (Lib.hid fun hk => ?_) (Lib.hid fun hk hc => ?_) (Lib.hid fun hk hc => ?_)
  · unfold againR againE; rw [hk]; exact ⟨rfl, rfl⟩
  · unfold againR againE; rw [if_pos hk, if_pos hk, if_neg (by show ¬ chkE a0 b0 a1 b1 a2 b2 = 0; rw [hc]; omega)]; exact ⟨rfl, hc⟩
  · have hl : okL ((a0, b0), (a1, b1), (a2, b2)) = true := okL_of hc
    refine ⟨?_, againE_ok hk hl⟩
    rw [againR_eq hk hl]
    simp [mapL, gMask, nth3]

theorem rseal_c (key n0 n1 n2 r0 r1 r2 x0 x1 x2 x3 x4 x5 E : Int) (w : World) (bn0 : -9223372036854775808 ≤ n0 ∧ n0 ≤ 9223372036854775807) (bn1 : -9223372036854775808 ≤ n1 ∧ n1 ≤ 9223372036854775807) (bn2 : -9223372036854775808 ≤ n2 ∧ n2 ≤ 9223372036854775807) (h : sealR key n0 n1 n2 r0 r1 r2 = ((x0, x1), (x2, x3), (x4, x5))) (k : sealE key n0 n1 n2 = E) :
    Calls Try.prog 16 #[.int .i64 key, .agg #[.int .i64 n0, .int .i64 n1, .int .i64 n2], .agg #[.int .i64 r0, .int .i64 r1, .int .i64 r2]] w
      fun e w' => e = .returned (.tuple #[sealedV x0 x1 x2 x3 x4 x5, .int .i64 E]) ∧ Below w.heap.size w w' := by
  have := rseal_any key n0 n1 n2 r0 r1 r2 w bn0 bn1 bn2
  rw [h, k] at this; exact this
theorem ragain_c (key a0 b0 a1 b1 a2 b2 r0 r1 r2 x0 x1 x2 x3 x4 x5 E : Int) (w : World) (h : againR key r0 r1 r2 ((a0, b0), (a1, b1), (a2, b2)) = ((x0, x1), (x2, x3), (x4, x5))) (k : againE key ((a0, b0), (a1, b1), (a2, b2)) = E) :
    Calls Try.prog 18 #[.int .i64 key, sealedV a0 b0 a1 b1 a2 b2, .agg #[.int .i64 r0, .int .i64 r1, .int .i64 r2]] w
      fun e w' => e = .returned (.tuple #[sealedV x0 x1 x2 x3 x4 x5, .int .i64 E]) ∧ Below w.heap.size w w' := by
  have := ragain_any key a0 b0 a1 b1 a2 b2 r0 r1 r2 w
  rw [h, k] at this; exact this

set_option maxRecDepth 100000 in
set_option maxHeartbeats 4000000 in
theorem elgamalSealSpec_walk (key n0 n1 n2 a0 b0 a1 b1 a2 b2 r0 r1 r2 : Int) (w : World) (_ : (Lit.int .i64 key).wf = true) (v0 : (Lit.int .i64 n0).wf = true) (v1 : (Lit.int .i64 n1).wf = true) (v2 : (Lit.int .i64 n2).wf = true) (_ : (Lit.int .i64 r0).wf = true) (_ : (Lit.int .i64 r1).wf = true) (_ : (Lit.int .i64 r2).wf = true) :
    Calls Try.prog 4 #[.int .i64 key, .agg #[.int .i64 n0, .int .i64 n1, .int .i64 n2], sealedV a0 b0 a1 b1 a2 b2, .agg #[.int .i64 r0, .int .i64 r1, .int .i64 r2]] w fun e w' => e = .returned (.bool true) ∧ Below w.heap.size w w' := by
  have B0 := Lib.hid (bounds_i64 v0); have B1 := Lib.hid (bounds_i64 v1); have B2 := Lib.hid (bounds_i64 v2)
  clear v0 v1 v2
  obtain ⟨⟨⟨x0, x1⟩, ⟨x2, x3⟩, ⟨x4, x5⟩⟩, hX⟩ : ∃ L, sealR key n0 n1 n2 r0 r1 r2 = L := ⟨_, rfl⟩
  obtain ⟨E, hE⟩ : ∃ E, sealE key n0 n1 n2 = E := ⟨_, rfl⟩
  obtain ⟨⟨⟨y0, y1⟩, ⟨y2, y3⟩, ⟨y4, y5⟩⟩, hY⟩ : ∃ L, againR key r0 r1 r2 ((a0, b0), (a1, b1), (a2, b2)) = L := ⟨_, rfl⟩
  obtain ⟨F, hF⟩ : ∃ E, againE key ((a0, b0), (a1, b1), (a2, b2)) = E := ⟨_, rfl⟩
  have HX := Lib.hid hX; have HE := Lib.hid hE; have HY := Lib.hid hY; have HF := Lib.hid hF; clear hX hE hY hF
  go_enter Try.func4, Try.ntmps4
  go_wp2_with fail
  refine (sane10_any _).mono ?_; rintro e w1 ⟨rfl, hb1⟩
  obtain ⟨V, hV⟩ : ∃ V, ((w.alloc (.cells #[.int .i64 n0, .int .i64 n1, .int .i64 n2] 30)).alloc (.cells #[.int .i64 a0, .int .i64 b0, .int .i64 a1, .int .i64 b1, .int .i64 a2, .int .i64 b2] 34)).alloc (.cells #[.int .i64 r0, .int .i64 r1, .int .i64 r2] 29) = V := ⟨_, rfl⟩
  have kv : Below w.heap.size w V := by rw [← hV]; exact (((Below.refl w.heap.size w).alloc (Nat.le_refl _) _).alloc (by simp) _).alloc (by simp; omega) _
  have v : Blks V [(w.heap.size + 1 + 1, #[.int .i64 r0, .int .i64 r1, .int .i64 r2], 29), (w.heap.size + 1, #[.int .i64 a0, .int .i64 b0, .int .i64 a1, .int .i64 b1, .int .i64 a2, .int .i64 b2], 34), (w.heap.size, #[.int .i64 n0, .int .i64 n1, .int .i64 n2], 30)] := by
    rw [← hV]; have h := (((Blks.nil w).box #[.int .i64 n0, .int .i64 n1, .int .i64 n2] 30).box #[.int .i64 a0, .int .i64 b0, .int .i64 a1, .int .i64 b1, .int .i64 a2, .int .i64 b2] 34).box #[.int .i64 r0, .int .i64 r1, .int .i64 r2] 29
    simp only [World.size_alloc] at h; exact h
  rw [hV] at hb1
  have h1 := Lib.hid (kv.trans (hb1.mono kv.size))
  have K1 := Lib.hid (v.below hb1)
  clear v kv hb1 hV
  obtain ⟨f0, f1, f2⟩ := blk3_facts K1.out.1
  obtain ⟨g0, g1, g2⟩ := blk3_facts K1.out.2.2.1
  have l1 := K1.out.1.lt; have l2 := K1.out.2.2.1.lt
  dsimp only at l1 l2
  go_wp2_with fail
  refine (seal_c key n0 n1 n2 r0 r1 r2 x0 x1 x2 x3 x4 x5 E _ HX.out HE.out).mono ?_; rintro e w2 ⟨rfl, hb⟩
  have K2 := Lib.hid (K1.out.below hb)
  have h2 := Lib.hid (bel_trans h1.out hb); clear hb f0 f1 f2 g0 g1 g2 l1 l2
  obtain ⟨f0, f1, f2⟩ := blk3_facts K2.out.1
  obtain ⟨g0, g1, g2⟩ := blk3_facts K2.out.2.2.1
  have l1 := K2.out.1.lt; have l2 := K2.out.2.2.1.lt
  dsimp only at l1 l2
  go_wp2_with fail
  refine (rseal_c key n0 n1 n2 r0 r1 r2 x0 x1 x2 x3 x4 x5 E _ B0.out B1.out B2.out HX.out HE.out).mono ?_; rintro e w3 ⟨rfl, hb⟩
  have K3 := Lib.hid (K2.out.new2 hb)
  have h3 := Lib.hid (belB2 h2.out hb); clear hb f0 f1 f2 g0 g1 g2 l1 l2
  obtain ⟨f0, f1, f2⟩ := blk3_facts K3.out.2.1
  obtain ⟨g0, g1, g2, g3, g4, g5, _⟩ := blk6_facts K3.out.2.2.1
  have l1 := K3.out.2.1.lt; have l2 := K3.out.2.2.1.lt
  dsimp only at l1 l2
  go_wp2_with fail
  refine (again_c key a0 b0 a1 b1 a2 b2 r0 r1 r2 y0 y1 y2 y3 y4 y5 F _ HY.out HF.out).mono ?_; rintro e w4 ⟨rfl, hb⟩
  have K4 := Lib.hid (K3.out.new2 hb)
  have h4 := Lib.hid (belB2 h3.out hb); clear hb f0 f1 f2 g0 g1 g2 g3 g4 g5 l1 l2
  obtain ⟨f0, f1, f2⟩ := blk3_facts K4.out.2.2.1
  obtain ⟨g0, g1, g2, g3, g4, g5, _⟩ := blk6_facts K4.out.2.2.2.1
  have l1 := K4.out.2.2.1.lt; have l2 := K4.out.2.2.2.1.lt
  dsimp only at l1 l2
  go_wp2_with fail
  refine (ragain_c key a0 b0 a1 b1 a2 b2 r0 r1 r2 y0 y1 y2 y3 y4 y5 F _ HY.out HF.out).mono ?_; rintro e w5 ⟨rfl, hb⟩
  have K5 := Lib.hid (K4.out.new2 hb)
  have h5 := Lib.hid (belB2 h4.out hb); clear hb f0 f1 f2 g0 g1 g2 g3 g4 g5 l1 l2
  obtain ⟨f0, f1, f2, f3, f4, f5, _⟩ := blk6_facts K5.out.1
  obtain ⟨g0, g1, g2, g3, g4, g5, _⟩ := blk6_facts K5.out.2.1
  obtain ⟨k0, k1, k2, k3, k4, k5, _⟩ := blk6_facts K5.out.2.2.1
  have l1 := K5.out.1.lt; have l2 := K5.out.2.1.lt; have l3 := K5.out.2.2.1.lt
  dsimp only at l1 l2 l3
  go_wp2_with fail
  go_ret
  exact ⟨rfl, h5.out.alloc h5.out.size _⟩

namespace elgamalSealSpec
theorem readable : ∀ t ∈ Try.f4.params.toList, Try.prog.readableRec t = true ∧ t < Try.prog.types.size := by
  rw [Try.params4]
  intro t ht
  simp only [List.mem_cons, List.not_mem_nil, or_false] at ht
  rcases ht with rfl | rfl | rfl | rfl
  all_goals exact ⟨by kernel_rfl, by decide +kernel⟩

set_option maxRecDepth 100000 in
theorem lifted (os : Os) (started : os.Started) (H : Type) (enc : TypeId × Value → H) :
    ReturnsInHanded {} Try.checked os 4 .any (Rows.elgamalSealSpecSpec.pre6 enc Try.prog Try.f4 Rows.elgamalSealSpecRow.domain false) (Rows.elgamalSealSpecSpec.post enc Try.prog Try.f4 false true false false) := by
  refine returnsInHanded_of_change (C := Try.checked) own_knob started (by kernel_rfl) Try.func4
    (ChangeSpec.witness6 (enc := enc) (C := Try.checked) false ⟨#[], #[.int .i64 0, .agg #[.int .i64 0, .int .i64 0, .int .i64 0], .agg #[.int .i64 0, .int .i64 0, .int .i64 0, .int .i64 0, .int .i64 0, .int .i64 0], .agg #[.int .i64 0, .int .i64 0, .int .i64 0]], []⟩ 8 (by kernel_rfl) (by kernel_rfl) (by kernel_rfl) (by kernel_rfl)) ?_
  intro W base args ds gs before hval0 hW hcnd _
  have hval : ∀ (j : Nat) t v, Try.f4.params[j]? = some t → args[j]? = some v → Value.okWide Try.prog W .any base t v := hval0
  have hW' := hW
  obtain ⟨p, q, hA0, hV, rfl, hfz, hnd⟩ := hW
  have hA : DataW.TrodAll enc Try.prog W 0 (fun _ => true) true Try.f4.params.toList args.toList ds p := hA0
  rw [Try.params4] at hA hval
  obtain ⟨v0, vs0, d0, ds0, p0, q0, hargs, rfl, rfl, h0, r0⟩ := trodAll_cons hA
  obtain ⟨v1, vs1, d1, ds1, p1, q1, rfl, rfl, rfl, h1, r1⟩ := trodAll_cons r0
  obtain ⟨v2, vs2, d2, ds2, p2, q2, rfl, rfl, rfl, h2, r2⟩ := trodAll_cons r1
  obtain ⟨v3, vs3, d3, ds3, p3, q3, rfl, rfl, rfl, h3, r3⟩ := trodAll_cons r2
  obtain ⟨rfl, rfl, rfl⟩ := trodAll_nil r3
  obtain rfl : args = #[v0, v1, v2, v3] := by cases args; simp_all
  obtain ⟨rfl, rfl⟩ := trodVars_none hV
  obtain ⟨a0, rfl, rfl, rfl, w0⟩ := open_int Try.underlying3 (hval 0 3 v0 rfl rfl) h0
  obtain ⟨a1, b1, c1, rfl, wa1, wb1, wc1⟩ := open_arr3 Try.underlying30 Try.underlying3 (by kernel_rfl) (by kernel_rfl) (hval 1 30 v1 rfl rfl) h1
  obtain ⟨a2, b2, c2, e2, f2, g2, rfl⟩ := open_arr32 (k := .i64) Try.underlying34 Try.underlying32 (by kernel_rfl) (by kernel_rfl) (by kernel_rfl) (by kernel_rfl) (by kernel_rfl) (hval 2 34 v2 rfl rfl) h2
  obtain ⟨a3, b3, c3, rfl, wa3, wb3, wc3⟩ := open_arr3 Try.underlying29 Try.underlying3 (by kernel_rfl) (by kernel_rfl) (hval 3 29 v3 rfl rfl) h3
  clear hA0 hval0
  refine (elgamalSealSpec_walk a0 a1 b1 c1 a2 b2 c2 e2 f2 g2 a3 b3 c3 W w0 wa1 wb1 wc1 wa3 wb3 wc3).mono fun e W' ⟨he, hb⟩ => ?_
  subst he
  exact ⟨_, rfl, law_post laid_out readable rfl rfl Try.underlying4 hW' rfl rfl rfl hb⟩

theorem over : Rows.elgamalSealSpecRow.holds Try.pinned (OpenSpec.ofChange Rows.elgamalSealSpecSpec) :=
  OpenClaim.holds_of_wide 4 Try.f4 rfl rfl rfl rfl rfl rfl rfl ⟨rfl, rfl, rfl, rfl, rfl⟩ rfl rfl rfl rfl rfl (by kernel_rfl) Try.func4 (by kernel_rfl)
    (of_decide_eq_true (by kernel_rfl)) (by unfold Func.isWrapper; first | (rw [if_pos (by decide +kernel)]; kernel_rfl) | (rw [if_neg (by decide +kernel)]; exact ⟨rfl, rfl⟩))
    (fun os started H enc _ => lifted os started H enc)

/-- the statement -/
theorem proved : Rows.ElgamalSealSpecSaid := over
end elgamalSealSpec
end Go.Proofs.Ytbmeljkdemdloaa
