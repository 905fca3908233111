/- For all lines, keys, aliases, numbers and return addresses, Make and Check agree with the reference. No condition. -/
import Derived.Test.YtcedmiojmepioaaGreatDoorOntSan
import Derived.Test.YtcedmiojmepioaaGreatDoorOntRf2
import Derived.Test.YtcedmiojmepioaaGreatDoorOntOpn
import Derived.Test.YtcedmiojmepioaaGreatDoorDigCard2
namespace Go.Proofs.YtcedmiojmepioaaGreatDoor
open Go.ChangeShapes Go.WideShapes Go.ChangeAt Go.RowKit Go.WideElems Go.Shelf
set_option linter.unusedVariables false
set_option linter.unusedSimpArgs false

set_option maxRecDepth 100000 in
set_option maxHeartbeats 8000000 in
theorem onetimeSpec_core (line key alias r l k a b : Int) (zs : List Int) (ml mk ma mb : Int) (ms : List Int) (me E : Int) (w : World) (hz : Hid (zs.length = 32)) (hk : Hid (KeysAt w)) (hm : Hid (ms.length = 32)) (HE : Hid (IsRC l k a b zs E)) (HM : Hid (∀ q : World, Below w.heap.size w q → Calls Tryz.prog 8 #[.int .i64 line, .int .i64 key, .int .i64 alias, .int .i64 r] q fun e w' => e = .returned (.tuple #[.agg (rtv ml mk ma mb ms).toArray, .int .i64 me]) ∧ Below q.heap.size q w')) (HRM : Hid (∀ q : World, Below w.heap.size w q → Calls Tryz.prog 9 #[.int .i64 line, .int .i64 key, .int .i64 alias, .int .i64 r] q fun e w' => e = .returned (.tuple #[.agg (rtv ml mk ma mb ms).toArray, .int .i64 me]) ∧ Below q.heap.size q w')) :
    Calls Tryz.prog 3 #[.int .i64 line, .int .i64 key, .int .i64 alias, .int .i64 r, .agg (rtv l k a b zs).toArray] w fun q w' => q = .returned (.bool true) ∧ Below w.heap.size w w' := by
  have X0 := Lib.hid (RBlk.box w l k a b hz.out)
  have B0 := Lib.hid (bel_alloc1 w (.cells (rtv l k a b zs).toArray 27))
  have EQ := eqRt_same ml mk ma mb ms hm.out
  go_enter Tryz.func3, Tryz.ntmps3
  go_wp2_with (first
    | (go_at_call 7; refine (sane16_any _ (Lib.hid (hk.out.below B0.out))).mono ?_; rintro e w1 ⟨rfl, hb⟩; have B1 := Lib.hid (bel_trans B0.out hb); have X1 := Lib.hid (X0.out.bel hb); clear hb)
    | (go_at_call 8; refine (HM.out _ B1.out).mono ?_; rintro e w2 ⟨rfl, hb⟩; have B2 := Lib.hid (bel_trans B1.out hb); have X2 := Lib.hid (X1.out.bel hb); clear hb)
    | (refine list_storeR rfl (.tmp 11) (.tmp 23) rfl w2.heap.size rfl ml mk ma mb ms rfl hm.out 0 0 0 0 (List.replicate 32 0) (RBlk.new w2) ?_))
  intro w3 q3 k3
  have K3 := Lib.hid ((bel_alloc1 w2 _).trans (k3.below (Nat.le_refl _)))
  have Y3 := Lib.hid q3
  have B3 := Lib.hid (bel_trans B2.out K3.out)
  have X3 := Lib.hid (X2.out.bel K3.out)
  clear q3 k3 K3
  generalize w2.heap.size = yb at Y3 ⊢
  go_wp2_with (first
    | (go_at_call 9; refine (HRM.out _ B3.out).mono ?_; rintro e w4 ⟨rfl, hb⟩; have B4 := Lib.hid (bel_trans B3.out hb); have X4 := Lib.hid (X3.out.bel hb); have Y4 := Lib.hid (Y3.out.bel hb); clear hb)
    | (refine list_storeR rfl (.tmp 13) (.tmp 31) rfl w4.heap.size rfl ml mk ma mb ms rfl hm.out 0 0 0 0 (List.replicate 32 0) (RBlk.new w4) ?_))
  intro w5 q5 k5
  have K5 := Lib.hid ((bel_alloc1 w4 _).trans (k5.below (Nat.le_refl _)))
  have Z5 := Lib.hid q5
  have B5 := Lib.hid (bel_trans B4.out K5.out)
  have X5 := Lib.hid (X4.out.bel K5.out)
  have Y5 := Lib.hid (Y4.out.bel K5.out)
  clear q5 k5 K5
  generalize w4.heap.size = zb at Z5 ⊢
  go_upto_region 5 with fail
  refine wp_region_any (by kernel_rfl) ?_
  change wpAny _ _ _ _ _ _ _ (World.drew _)
  generalize hWD : World.drew _ = W
  have BW := Lib.hid (show Below w.heap.size w W by rw [← hWD]; exact B5.out.drew)
  have XW := Lib.hid (show RBlk W w.heap.size l k a b zs by rw [← hWD]; exact X5.out)
  have YW := Lib.hid (show RBlk W yb ml mk ma mb ms by rw [← hWD]; exact Y5.out)
  have ZW := Lib.hid (show RBlk W zb ml mk ma mb ms by rw [← hWD]; exact Z5.out)
  clear hWD
  have hCD : ∀ u, Ext W u → Ext W u := fun u hu => hu
  refine region_U (D := Ext W) (Ext W) [15] (Ext.refl W) ?_
  refine anyU_takeP (i := 0) (j := 15) (v := .agg (rtv ml mk ma mb ms).toArray) 33 [] rfl rfl (by kernel_rfl) (by kernel_rfl) (by kernel_rfl) (fun _ _ _ h => h) (by kernel_rfl) (Ext.stable _) hCD (yieldsU_of_C (yields_loadR (by rfl) (.tmp 11) rfl yb rfl ml mk ma mb ms hm.out (fun u hu => YW.out.bel hu))) ?_
  refine anyU_takeP (i := 1) (j := 15) (v := .agg (rtv ml mk ma mb ms).toArray) 34 [] rfl rfl (by kernel_rfl) (by kernel_rfl) (by kernel_rfl) (fun _ _ _ h => h) (by kernel_rfl) (Ext.stable _) hCD (yieldsU_of_C (yields_loadR (by rfl) (.tmp 13) rfl zb rfl ml mk ma mb ms hm.out (fun u hu => ZW.out.bel hu))) ?_
  refine anyU_takeP (i := 2) (j := 15) (v := .bool true) 35 [] rfl rfl (by kernel_rfl) (by kernel_rfl) (by kernel_rfl) (fun _ _ _ h => h) (by kernel_rfl) (Ext.stable _) hCD (yieldsU_val rfl (fun u hu => by go_simp)) ?_
  refine anyU_takeP (i := 3) (j := 15) (v := .bool true) 36 [] rfl rfl (by kernel_rfl) (by kernel_rfl) (by kernel_rfl) (fun _ _ _ h => h) (by kernel_rfl) (Ext.stable _) hCD (yieldsU_val rfl (fun u hu => by go_simp)) ?_
  simp only [Act.put, List.setIfInBounds_toArray, List.set_cons_succ, List.set_cons_zero]
  refine anyU_takeP (i := 4) (j := 15) (v := .int .i64 me) 37 [] rfl rfl (by kernel_rfl) (by kernel_rfl) (by kernel_rfl) (fun _ _ _ h => h) (by kernel_rfl) (Ext.stable _) hCD (yieldsU_val rfl (fun u hu => by go_simp)) ?_
  refine anyU_takeP (i := 5) (j := 15) (v := .int .i64 me) 38 [] rfl rfl (by kernel_rfl) (by kernel_rfl) (by kernel_rfl) (fun _ _ _ h => h) (by kernel_rfl) (Ext.stable _) hCD (yieldsU_val rfl (fun u hu => by go_simp)) ?_
  refine anyU_takeP (i := 6) (j := 15) (v := .bool true) 39 [] rfl rfl (by kernel_rfl) (by kernel_rfl) (by kernel_rfl) (fun _ _ _ h => h) (by kernel_rfl) (Ext.stable _) hCD (yieldsU_val rfl (fun u hu => by go_simp)) ?_
  refine anyU_takeP (i := 7) (j := 15) (v := .bool true) 40 [] rfl rfl (by kernel_rfl) (by kernel_rfl) (by kernel_rfl) (fun _ _ _ h => h) (by kernel_rfl) (Ext.stable _) hCD (yieldsU_val rfl (fun u hu => by go_simp)) ?_
  refine anyU_takeP (i := 8) (j := 15) (v := .bool true) 41 [] rfl rfl (by kernel_rfl) (by kernel_rfl) (by kernel_rfl) (fun _ _ _ h => h) (by kernel_rfl) (Ext.stable _) hCD (yieldsU_val rfl (fun u hu => by go_simp)) ?_
  simp only [Act.put, List.setIfInBounds_toArray, List.set_cons_succ, List.set_cons_zero]
  refine anyU_takeP (i := 9) (j := 15) (v := .agg (rtv l k a b zs).toArray) 42 [] rfl rfl (by kernel_rfl) (by kernel_rfl) (by kernel_rfl) (fun _ _ _ h => h) (by kernel_rfl) (Ext.stable _) hCD (yieldsU_of_C (yields_loadR (by rfl) (.tmp 9) rfl w.heap.size rfl l k a b zs hz.out (fun u hu => XW.out.bel hu))) ?_
  refine anyU_takeP (i := 10) (j := 15) (v := .int .i64 E) 43 [] rfl rfl (by kernel_rfl) (by kernel_rfl) (by kernel_rfl) (fun _ _ _ h => h) (by kernel_rfl) (Ext.stable _) hCD (yieldsU_call rfl 10 _ _ rfl #[.agg (rtv l k a b zs).toArray] (by simp [Act.eval, Act.put]) (fun u => by go_simp) (fun u hu => ocheck_any l k a b zs E u hz HE (Lib.hid ((hk.out.below BW.out).below hu)))) ?_
  refine anyU_takeP (i := 11) (j := 15) (v := .agg (rtv l k a b zs).toArray) 44 [] rfl rfl (by kernel_rfl) (by kernel_rfl) (by kernel_rfl) (fun _ _ _ h => h) (by kernel_rfl) (Ext.stable _) hCD (yieldsU_of_C (yields_loadR (by rfl) (.tmp 9) rfl w.heap.size rfl l k a b zs hz.out (fun u hu => XW.out.bel hu))) ?_
  refine anyU_takeP (i := 12) (j := 15) (v := .int .i64 E) 45 [] rfl rfl (by kernel_rfl) (by kernel_rfl) (by kernel_rfl) (fun _ _ _ h => h) (by kernel_rfl) (Ext.stable _) hCD (yieldsU_call rfl 11 _ _ rfl #[.agg (rtv l k a b zs).toArray] (by simp [Act.eval, Act.put]) (fun u => by go_simp) (fun u hu => rcheck_any l k a b zs E u hz HE)) ?_
  simp only [Act.put, List.setIfInBounds_toArray, List.set_cons_succ, List.set_cons_zero]
  refine anyU_takeP (i := 13) (j := 15) (v := .bool true) 46 [] rfl rfl (by kernel_rfl) (by kernel_rfl) (by kernel_rfl) (fun _ _ _ h => h) (by kernel_rfl) (Ext.stable _) hCD (yieldsU_val rfl (fun u hu => by go_simp)) ?_
  refine anyU_takeP (i := 14) (j := 15) (v := .bool true) 47 [] rfl rfl (by kernel_rfl) (by kernel_rfl) (by kernel_rfl) (fun _ _ _ h => h) (by kernel_rfl) (Ext.stable _) hCD (yieldsU_val rfl (fun u hu => by go_simp)) ?_
  simp only [Act.put, List.setIfInBounds_toArray, List.set_cons_succ, List.set_cons_zero]
  refine anyU_tail 15 [] rfl rfl (by decide) (by kernel_rfl) ?_
  intro u9 hu9
  simp only [Act.put, List.filterMap_cons, List.filterMap_nil, List.getElem?_cons_succ, List.getElem?_cons_zero]
  have B9 := Lib.hid (bel_trans BW.out hu9)
  clear hu9
  go_wp2_with fail
  go_ret
  exact ⟨rfl, B9.out⟩
theorem onetimeSpec_walk (line key alias r l k a b : Int) (zs : List Int) (w : World) (hr : Hid (-9223372036854775808 ≤ alias ∧ alias ≤ 9223372036854775807)) (hz : Hid (zs.length = 32)) (hk : Hid (KeysAt w)) :
    Calls Tryz.prog 3 #[.int .i64 line, .int .i64 key, .int .i64 alias, .int .i64 r, .agg (rtv l k a b zs).toArray] w fun q w' => q = .returned (.bool true) ∧ Below w.heap.size w w' := by
  obtain ⟨E, he⟩ := isRC l k a b zs
  have HE := Lib.hid he
  have h32 := Lib.hid (show (List.replicate 32 (0 : Int)).length = 32 from rfl)
  cases h1 : lineB line with
  | false =>
    have H1 := Lib.hid h1
    refine onetimeSpec_core line key alias r l k a b zs 0 0 0 0 _ 160 E w hz hk h32 HE (Lib.hid fun q hq => omake_line line key alias r q H1) (Lib.hid fun q hq => ?_)
    rcases Int.lt_or_le line 0 with hn | hn
    · exact rmake_neg line key alias r q (Lib.hid hn)
    · refine rmake_big line key alias r q (Lib.hid ?_)
      rcases Int.lt_or_le line 64 with hm | hm
      · rw [lineB_iff.2 ⟨hn, hm⟩] at h1; cases h1
      · exact hm
  | true =>
    have H1 := Lib.hid h1
    have L1 := Lib.hid (lineB_iff.1 h1)
    cases h2 : elB key with
    | false =>
      have H2 := Lib.hid h2
      exact onetimeSpec_core line key alias r l k a b zs 0 0 0 0 _ 90 E w hz hk h32 HE (Lib.hid fun q hq => omake_key line key alias r q H1 H2) (Lib.hid fun q hq => rmake_key line key alias r q L1 H2)
    | true =>
      have H2 := Lib.hid h2
      cases h3 : wordB alias with
      | false =>
        have H3 := Lib.hid h3
        exact onetimeSpec_core line key alias r l k a b zs 0 0 0 0 _ 160 E w hz hk h32 HE (Lib.hid fun q hq => omake_word line key alias r q H1 H2 H3) (Lib.hid fun q hq => rmake_word line key alias r q L1 H2 hr H3)
      | true =>
        have H3 := Lib.hid h3
        obtain ⟨x, y, hc⟩ := isCip key (elmZ alias) r
        obtain ⟨ds, hd⟩ := isTag line key x y
        have HC := Lib.hid hc
        have HD := Lib.hid hd
        exact onetimeSpec_core line key alias r l k a b zs line key x y ds 0 E w hz hk (Lib.hid hd.len) HE (Lib.hid fun q hq => omake_ok line key alias r q H1 H2 H3 x y ds HC HD (Lib.hid (hk.out.below hq))) (Lib.hid fun q hq => rmake_ok line key alias r q L1 H2 hr H3 x y ds HC HD)

namespace onetimeSpec
theorem readable : ∀ t ∈ Tryz.f3.params.toList, Tryz.prog.readableRec t = true ∧ t < Tryz.prog.types.size := by
  rw [Tryz.params3]
  intro t ht
  simp only [List.mem_cons, List.not_mem_nil, or_false] at ht
  rcases ht with rfl | rfl | rfl | rfl | rfl
  all_goals exact ⟨by kernel_rfl, by decide +kernel⟩

set_option maxRecDepth 100000 in
theorem lifted (os : Os) (started : os.Started) (H : Type) (enc : TypeId × Value → H) :
    ReturnsInHanded {} Tryz.checked os 3 .any (fun w args => (Rows.onetimeSpecSpec.pre enc Tryz.prog Tryz.f3 [] false w args ∧ laidMetH Tryz.prog laidK w) ∧ sizedMet enc Tryz.prog Tryz.f3 (OpenSpec.ofChange Rows.onetimeSpecSpec) false w args)
      (Rows.onetimeSpecSpec.post enc Tryz.prog Tryz.f3 false true false false) := by
  refine returnsInHanded_of_change_and (C := Tryz.checked) (X := fun w _ => laidMetH Tryz.prog laidK w) (fun _ _ _ hh h => h.of_heap hh) own_knob started (by kernel_rfl) Tryz.func3
    (ChangeSpec.witness_shaped (enc := enc) (C := Tryz.checked) (os := os) (X := fun w _ => laidMetH Tryz.prog laidK w) false (World.doorLaid Tryz.prog 400 os) #[.int .i64 0, .int .i64 0, .int .i64 0, .int .i64 0, .agg (rtv 0 0 0 0 (List.replicate 32 0)).toArray] 8 rfl (World.shaped_of_RefB (by kernel_rfl) (by kernel_rfl)) (by kernel_rfl) (by kernel_rfl) (by kernel_rfl) (door_met os _)) ?_
  intro W base args ds gs before hval0 hW _ _ hL _
  have hval : ∀ (j : Nat) t v, Tryz.f3.params[j]? = some t → args[j]? = some v → Value.okWide Tryz.prog W .any base t v := hval0
  have hW' := hW
  obtain ⟨p, q, hA0, hV, rfl, hfz, hnd⟩ := hW
  have hA : DataW.TrodAll enc Tryz.prog W 0 (fun _ => true) true Tryz.f3.params.toList args.toList ds p := hA0
  rw [Tryz.params3] at hA hval
  obtain ⟨v0, vs0, d0, ds0, p0, q0, hargs, rfl, rfl, h0, r0⟩ := trodAll_cons hA
  obtain ⟨v1, vs1, d1, ds1, p1, q1, rfl, rfl, rfl, h1, r1⟩ := trodAll_cons r0
  obtain ⟨v2, vs2, d2, ds2, p2, q2, rfl, rfl, rfl, h2, r2⟩ := trodAll_cons r1
  obtain ⟨v3, vs3, d3, ds3, p3, q3, rfl, rfl, rfl, h3, r3⟩ := trodAll_cons r2
  obtain ⟨v4, vs4, d4, ds4, p4, q4, rfl, rfl, rfl, h4, r4⟩ := trodAll_cons r3
  obtain ⟨rfl, rfl, rfl⟩ := trodAll_nil r4
  obtain rfl : args = #[v0, v1, v2, v3, v4] := by cases args; simp_all
  obtain ⟨rfl, rfl⟩ := trodVars_none hV
  obtain ⟨a0, rfl, rfl, rfl, w0⟩ := open_int Tryz.underlying3 (hval 0 3 v0 rfl rfl) h0
  obtain ⟨a1, rfl, rfl, rfl, w1⟩ := open_int Tryz.underlying3 (hval 1 3 v1 rfl rfl) h1
  obtain ⟨a2, rfl, rfl, rfl, w2⟩ := open_int Tryz.underlying3 (hval 2 3 v2 rfl rfl) h2
  obtain ⟨a3, rfl, rfl, rfl, w3⟩ := open_int Tryz.underlying3 (hval 3 3 v3 rfl rfl) h3
  obtain ⟨l4, k4, a4, b4, z4, rfl, w4, x4⟩ := open_ret (hval 4 27 v4 rfl rfl) h4
  have hK := of_laid hL
  clear hA0 hval0
  refine (onetimeSpec_walk a0 a1 a2 a3 l4 k4 a4 b4 z4 W (Lib.hid (bounds_i64 w2)) (Lib.hid w4) (Lib.hid hK)).mono fun e W' ⟨he, hb⟩ => ?_
  subst he
  exact ⟨_, rfl, law_post laid_out readable rfl rfl Tryz.underlying4 hW' rfl rfl rfl hb⟩

theorem over : Rows.onetimeSpecRow.holds Tryz.pinned (OpenSpec.ofChange Rows.onetimeSpecSpec) :=
  OpenClaim.holds_of_wide 3 Tryz.f3 rfl rfl rfl rfl rfl rfl rfl ⟨rfl, rfl, rfl, rfl, rfl⟩ rfl rfl rfl rfl rfl (by kernel_rfl) Tryz.func3 (by kernel_rfl)
    (of_decide_eq_true (by kernel_rfl)) (by unfold Func.isWrapper; first | (rw [if_pos (by decide +kernel)]; kernel_rfl) | (rw [if_neg (by decide +kernel)]; exact ⟨rfl, rfl⟩))
    (fun os started H enc _ => lifted os started H enc)

/-- the statement: the tied card -/
theorem proved : Rows.OnetimeSpecCardSaid :=
  Claim7.holds_tied_plain_at .later [] [.data] true (true, "2945dd45cb54298148d20fc3ddd31a466de9b69a6089ff3bdcb76d6b52769d97") false
    over (fun _ h => by cases h) (by kernel_rfl) (fun _ h => by cases h) onetimeSpec_row_tie rfl ⟨rfl, rfl⟩ (by kernel_rfl) rfl
    (fun f fn hf hfn => by
      obtain rfl : f = 3 := Option.some.inj ((show Tryz.prog.funcNamed "franking/frankinglaw16.OnetimeSpec" = some 3 by kernel_rfl).symm.trans hf) |>.symm
      obtain rfl : fn = Tryz.f3 := (Option.some.inj (Tryz.func3.symm.trans hfn)).symm
      exact ⟨by kernel_rfl, fun j t ht => by
        rw [Tryz.params3] at ht
        have hm : t ∈ [3, 3, 3, 3, 27] := by simpa using Array.mem_of_getElem? ht
        have hall : ([3, 3, 3, 3, 27].all fun u => !Tryz.prog.wantsStandIn u) = true := by kernel_rfl
        exact (show Tryz.prog.wantsStandIn t = false by simpa using List.all_eq_true.1 hall t hm)⟩)
    (by kernel_rfl)
end onetimeSpec
end Go.Proofs.YtcedmiojmepioaaGreatDoor
