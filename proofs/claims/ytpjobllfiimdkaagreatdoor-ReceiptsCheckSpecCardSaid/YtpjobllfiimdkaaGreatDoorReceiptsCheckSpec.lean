/- For all keys and words, Check agrees with the reference. No condition. -/
import Derived.Test.YtpjobllfiimdkaaGreatDoorSanZ
import Derived.Test.YtpjobllfiimdkaaGreatDoorRefSZ
import Derived.Test.YtpjobllfiimdkaaGreatDoorCrdZ
namespace Go.Proofs.YtpjobllfiimdkaaGreatDoor
open Go.ChangeShapes Go.WideShapes Go.ChangeAt Go.RowKit Go.WideElems Go.Shelf
set_option linter.unusedVariables false
set_option linter.unusedSimpArgs false

set_option maxRecDepth 100000 in
set_option maxHeartbeats 8000000 in
theorem checkSpec_core (key a b c x y z : Int) (v : Bool) (w : World) (hk : Hid (KeysAt w)) (HC : Hid (∀ g : World, Below w.heap.size w g → Calls Tryz.prog 8 #[.int .i64 key, .agg #[.int .i64 a, .int .i64 b, .int .i64 c], .agg #[.int .i64 x, .int .i64 y, .int .i64 z]] g fun e w' => e = .returned (.bool v) ∧ Below g.heap.size g w')) (HR : Hid (∀ g : World, Below w.heap.size w g → Calls Tryz.prog 9 #[.int .i64 key, .agg #[.int .i64 a, .int .i64 b, .int .i64 c], .agg #[.int .i64 x, .int .i64 y, .int .i64 z]] g fun e w' => e = .returned (.bool v) ∧ Below g.heap.size g w')) :
    Calls Tryz.prog 4 #[.int .i64 key, .agg #[.int .i64 a, .int .i64 b, .int .i64 c], .agg #[.int .i64 x, .int .i64 y, .int .i64 z]] w fun r w' => r = .returned (.bool true) ∧ Below w.heap.size w w' := by
  have A0 := Lib.hid ((Blk.new w #[.int .i64 a, .int .i64 b, .int .i64 c] 23).alloc (.cells #[.int .i64 x, .int .i64 y, .int .i64 z] 23))
  have X0 := Lib.hid (show Blk ((w.alloc (.cells #[.int .i64 a, .int .i64 b, .int .i64 c] 23)).alloc (.cells #[.int .i64 x, .int .i64 y, .int .i64 z] 23)) (w.heap.size + 1) #[.int .i64 x, .int .i64 y, .int .i64 z] 23 by have := Blk.new (w.alloc (.cells #[.int .i64 a, .int .i64 b, .int .i64 c] 23)) #[.int .i64 x, .int .i64 y, .int .i64 z] 23; simpa using this)
  have B0 := Lib.hid (show Below w.heap.size w ((w.alloc (.cells #[.int .i64 a, .int .i64 b, .int .i64 c] 23)).alloc (.cells #[.int .i64 x, .int .i64 y, .int .i64 z] 23)) from (bel_alloc1 w _).alloc (by simp) _)
  go_enter Tryz.func4, Tryz.ntmps4
  go_upto_region 1 with fail
  generalize World.alloc (World.alloc w _) _ = W0 at A0 X0 B0 ⊢
  go_upto_region 3 with (go_at_call 5; refine (sane43_any _ (Lib.hid (hk.out.below B0.out))).mono ?_; rintro r u1 ⟨rfl, hb⟩; have B1 := Lib.hid (bel_trans B0.out hb); have A1 := Lib.hid (A0.out.below hb A0.out.lt); have X1 := Lib.hid (X0.out.below hb X0.out.lt); clear hb)
  refine wp_region_any (by kernel_rfl) ?_
  change wpAny _ _ _ _ _ _ _ (World.drew _)
  generalize hWD : World.drew _ = W
  have B2 := Lib.hid (show Below w.heap.size w W by rw [← hWD]; exact B1.out.drew)
  have AX := Lib.hid (show Blk W w.heap.size #[.int .i64 a, .int .i64 b, .int .i64 c] 23 by rw [← hWD]; exact A1.out)
  have XX := Lib.hid (show Blk W (w.heap.size + 1) #[.int .i64 x, .int .i64 y, .int .i64 z] 23 by rw [← hWD]; exact X1.out)
  clear hWD A0 X0 B0 A1 X1
  have hCD : ∀ u, Ext W u → Ext W u := fun u hu => hu
  refine region_U (D := Ext W) (Ext W) [8] (Ext.refl W) ?_
  refine anyU_takeP (i := 0) (j := 8) (v := .int .i64 key) 9 [3] rfl rfl (by kernel_rfl) (by kernel_rfl) (by kernel_rfl) (fun _ _ _ h => h) (by kernel_rfl) (Ext.stable _) hCD (yieldsU_val rfl (fun u hu => by go_simp)) ?_
  refine anyU_takeP (i := 1) (j := 8) (v := .agg #[.int .i64 a, .int .i64 b, .int .i64 c]) 10 [3] rfl rfl (by kernel_rfl) (by kernel_rfl) (by kernel_rfl) (fun _ _ _ h => h) (by kernel_rfl) (Ext.stable _) hCD (yieldsU_val rfl (fun u hu => by have q := AX.out.below hu AX.out.lt; have c0 := q.cell 0; have c1 := q.cell 1; have c2 := q.cell 2; go_simp)) ?_
  refine anyU_takeP (i := 2) (j := 8) (v := .agg #[.int .i64 x, .int .i64 y, .int .i64 z]) 11 [3] rfl rfl (by kernel_rfl) (by kernel_rfl) (by kernel_rfl) (fun _ _ _ h => h) (by kernel_rfl) (Ext.stable _) hCD (yieldsU_val rfl (fun u hu => by have q := XX.out.below hu XX.out.lt; have c0 := q.cell 0; have c1 := q.cell 1; have c2 := q.cell 2; go_simp)) ?_
  simp only [Act.put, List.setIfInBounds_toArray, List.set_cons_succ, List.set_cons_zero]
  refine anyU_takeP (i := 3) (j := 8) (v := .bool v) 12 [] rfl rfl (by kernel_rfl) (by kernel_rfl) (by kernel_rfl) (fun _ _ _ h => h) (by kernel_rfl) (Ext.stable _) hCD (yieldsU_call rfl 8 _ _ rfl #[.int .i64 key, .agg #[.int .i64 a, .int .i64 b, .int .i64 c], .agg #[.int .i64 x, .int .i64 y, .int .i64 z]] (by simp [Act.eval, Act.put]) (fun u => by go_simp) (fun u hu => HC.out u (bel_trans B2.out hu))) ?_
  simp only [Act.put, List.setIfInBounds_toArray, List.set_cons_succ, List.set_cons_zero]
  refine anyU_takeP (i := 4) (j := 8) (v := .int .i64 key) 13 [7] rfl rfl (by kernel_rfl) (by kernel_rfl) (by kernel_rfl) (fun _ _ _ h => h) (by kernel_rfl) (Ext.stable _) hCD (yieldsU_val rfl (fun u hu => by go_simp)) ?_
  refine anyU_takeP (i := 5) (j := 8) (v := .agg #[.int .i64 a, .int .i64 b, .int .i64 c]) 14 [7] rfl rfl (by kernel_rfl) (by kernel_rfl) (by kernel_rfl) (fun _ _ _ h => h) (by kernel_rfl) (Ext.stable _) hCD (yieldsU_val rfl (fun u hu => by have q := AX.out.below hu AX.out.lt; have c0 := q.cell 0; have c1 := q.cell 1; have c2 := q.cell 2; go_simp)) ?_
  refine anyU_takeP (i := 6) (j := 8) (v := .agg #[.int .i64 x, .int .i64 y, .int .i64 z]) 15 [7] rfl rfl (by kernel_rfl) (by kernel_rfl) (by kernel_rfl) (fun _ _ _ h => h) (by kernel_rfl) (Ext.stable _) hCD (yieldsU_val rfl (fun u hu => by have q := XX.out.below hu XX.out.lt; have c0 := q.cell 0; have c1 := q.cell 1; have c2 := q.cell 2; go_simp)) ?_
  simp only [Act.put, List.setIfInBounds_toArray, List.set_cons_succ, List.set_cons_zero]
  refine anyU_takeP (i := 7) (j := 8) (v := .bool v) 16 [] rfl rfl (by kernel_rfl) (by kernel_rfl) (by kernel_rfl) (fun _ _ _ h => h) (by kernel_rfl) (Ext.stable _) hCD (yieldsU_call rfl 9 _ _ rfl #[.int .i64 key, .agg #[.int .i64 a, .int .i64 b, .int .i64 c], .agg #[.int .i64 x, .int .i64 y, .int .i64 z]] (by simp [Act.eval, Act.put]) (fun u => by go_simp) (fun u hu => HR.out u (bel_trans B2.out hu))) ?_
  simp only [Act.put, List.setIfInBounds_toArray, List.set_cons_succ, List.set_cons_zero]
  refine anyU_tail 8 [9] rfl rfl (by decide) (by kernel_rfl) ?_
  intro u3 hu3
  simp only [Act.put, List.filterMap_cons, List.filterMap_nil, List.getElem?_cons_succ, List.getElem?_cons_zero]
  have B3 := Lib.hid (bel_trans B2.out hu3)
  clear hu3
  cases v with
  | true =>
    go_wp2_with fail
    go_ret
    exact ⟨rfl, B3.out⟩
  | false =>
    go_wp2_with fail
    go_ret
    exact ⟨rfl, B3.out⟩
theorem wrap_out {y : Int} (h : inR y) (ho : y < 1 ∨ 1073741789 < y) : inQ (IntKind.i64.wrap (y - 1)) = false := by
  unfold inR at h
  by_cases hm : y = -9223372036854775808
  · subst hm; decide
  · rw [IntWalk.i64_in _ (by omega)]
    unfold inQ
    rcases ho with ho | ho
    · rw [decide_eq_false (by omega : ¬ 0 ≤ y - 1)]; rfl
    · rw [decide_eq_false (by omega : ¬ y - 1 < 1073741789)]; simp
theorem word_q {n : Int} (h : wordB n = false) : n < 1 ∨ 1073741789 < n := by
  unfold wordB at h; simp at h; omega
theorem checkSpec_walk (key a b c x y z : Int) (w : World) (hk : Hid (KeysAt w)) (hok : Hid (∀ q ∈ intsA [a, b, c], q.ok)) (ry : inR y) (rz : inR z) :
    Calls Tryz.prog 4 #[.int .i64 key, .agg #[.int .i64 a, .int .i64 b, .int .i64 c], .agg #[.int .i64 x, .int .i64 y, .int .i64 z]] w fun r w' => r = .returned (.bool true) ∧ Below w.heap.size w w' := by
  have K : ∀ q : World, Below w.heap.size w q → Hid (KeysAt q) := fun q hq => Lib.hid (hk.out.below hq)
  cases h1 : wordB y with
  | false =>
    have hv : IsVer key (ltx a b c) (IntKind.i64.wrap (y - 1)) (IntKind.i64.wrap (z - 1)) false := IsVer.no (by rw [wrap_out ry (word_q h1)]; simp)
    exact checkSpec_core key a b c x y z false w hk (Lib.hid fun u hu => recChk_is key a b c x y z _ _ false u hok (K u hu) rfl rfl (Lib.hid hv)) (Lib.hid fun u hu => rrChk_n1 key a b c x y z u (Lib.hid h1))
  | true =>
    cases h2 : wordB z with
    | false =>
      have hv : IsVer key (ltx a b c) (IntKind.i64.wrap (y - 1)) (IntKind.i64.wrap (z - 1)) false := IsVer.no (by rw [wrap_out rz (word_q h2)]; simp)
      exact checkSpec_core key a b c x y z false w hk (Lib.hid fun u hu => recChk_is key a b c x y z _ _ false u hok (K u hu) rfl rfl (Lib.hid hv)) (Lib.hid fun u hu => rrChk_n2 key a b c x y z u (Lib.hid h1) (Lib.hid h2))
    | true =>
      obtain ⟨v, hv⟩ := isVer key (ltx a b c) (IntKind.i64.wrap (y - 1)) (IntKind.i64.wrap (z - 1))
      exact checkSpec_core key a b c x y z v w hk (Lib.hid fun u hu => recChk_is key a b c x y z _ _ v u hok (K u hu) rfl rfl (Lib.hid hv)) (Lib.hid fun u hu => rrChk_is key a b c x y z _ _ v u (Lib.hid h1) (Lib.hid h2) hok rfl rfl (Lib.hid hv))

namespace receiptsCheckSpec
theorem readable : ∀ t ∈ Tryz.f4.params.toList, Tryz.prog.readableRec t = true ∧ t < Tryz.prog.types.size := by
  rw [Tryz.params4]
  intro t ht
  simp only [List.mem_cons, List.not_mem_nil, or_false] at ht
  rcases ht with rfl | rfl | rfl
  all_goals exact ⟨by kernel_rfl, by decide +kernel⟩

set_option maxRecDepth 100000 in
theorem lifted (os : Os) (started : os.Started) (H : Type) (enc : TypeId × Value → H) :
    ReturnsInHanded {} Tryz.checked os 4 .any (fun w args => (Rows.receiptsCheckSpecSpec.pre enc Tryz.prog Tryz.f4 [] false w args ∧ laidMetH Tryz.prog laidK w) ∧ sizedMet enc Tryz.prog Tryz.f4 (OpenSpec.ofChange Rows.receiptsCheckSpecSpec) false w args)
      (Rows.receiptsCheckSpecSpec.post enc Tryz.prog Tryz.f4 false true false false) := by
  refine returnsInHanded_of_change_and (C := Tryz.checked) (X := fun w _ => laidMetH Tryz.prog laidK w) (fun _ _ _ hh h => h.of_heap hh) own_knob started (by kernel_rfl) Tryz.func4
    (ChangeSpec.witness_shaped (enc := enc) (C := Tryz.checked) (os := os) (X := fun w _ => laidMetH Tryz.prog laidK w) false (World.doorLaid Tryz.prog 400 os) #[.int .i64 0, .agg #[.int .i64 0, .int .i64 0, .int .i64 0], .agg #[.int .i64 0, .int .i64 0, .int .i64 0]] 8 rfl (World.shaped_of_RefB (by kernel_rfl) (by kernel_rfl)) (by kernel_rfl) (by kernel_rfl) (by kernel_rfl) (door_met os _)) ?_
  intro W base args ds gs before hval0 hW _ _ hL _
  have hval : ∀ (j : Nat) t v, Tryz.f4.params[j]? = some t → args[j]? = some v → Value.okWide Tryz.prog W .any base t v := hval0
  have hW' := hW
  obtain ⟨p, q, hA0, hV, rfl, hfz, hnd⟩ := hW
  have hA : DataW.TrodAll enc Tryz.prog W 0 (fun _ => true) true Tryz.f4.params.toList args.toList ds p := hA0
  rw [Tryz.params4] at hA hval
  obtain ⟨v0, vs0, d0, ds0, p0, q0, hargs, rfl, rfl, h0, r0⟩ := trodAll_cons hA
  obtain ⟨v1, vs1, d1, ds1, p1, q1, rfl, rfl, rfl, h1, r1⟩ := trodAll_cons r0
  obtain ⟨v2, vs2, d2, ds2, p2, q2, rfl, rfl, rfl, h2, r2⟩ := trodAll_cons r1
  obtain ⟨rfl, rfl, rfl⟩ := trodAll_nil r2
  obtain rfl : args = #[v0, v1, v2] := by cases args; simp_all
  obtain ⟨rfl, rfl⟩ := trodVars_none hV
  obtain ⟨a0, rfl, rfl, rfl, w0⟩ := open_int Tryz.underlying3 (hval 0 3 v0 rfl rfl) h0
  obtain ⟨a1, b1, c1, rfl, w1, x1, y1⟩ := open_arr3 Tryz.underlying23 Tryz.underlying3 (by kernel_rfl) (by kernel_rfl) (hval 1 23 v1 rfl rfl) h1
  obtain ⟨a2, b2, c2, rfl, w2, x2, y2⟩ := open_arr3 Tryz.underlying23 Tryz.underlying3 (by kernel_rfl) (by kernel_rfl) (hval 2 23 v2 rfl rfl) h2
  have hK := of_laid hL
  clear hA0 hval0
  refine (checkSpec_walk a0 a1 b1 c1 a2 b2 c2 W (Lib.hid hK) (Lib.hid (ints3 (bounds_i64 w1) (bounds_i64 x1) (bounds_i64 y1))) (bounds_i64 x2) (bounds_i64 y2)).mono fun e W' ⟨he, hb⟩ => ?_
  subst he
  exact ⟨_, rfl, law_post laid_out readable rfl rfl Tryz.underlying4 hW' rfl rfl rfl hb⟩

theorem over : Rows.receiptsCheckSpecRow.holds Tryz.pinned (OpenSpec.ofChange Rows.receiptsCheckSpecSpec) :=
  OpenClaim.holds_of_wide 4 Tryz.f4 rfl rfl rfl rfl rfl rfl rfl ⟨rfl, rfl, rfl, rfl, rfl⟩ rfl rfl rfl rfl rfl (by kernel_rfl) Tryz.func4 (by kernel_rfl)
    (of_decide_eq_true (by kernel_rfl)) (by unfold Func.isWrapper; first | (rw [if_pos (by decide +kernel)]; kernel_rfl) | (rw [if_neg (by decide +kernel)]; exact ⟨rfl, rfl⟩))
    (fun os started H enc _ => lifted os started H enc)

/-- the statement: the tied card -/
theorem proved : Rows.ReceiptsCheckSpecCardSaid :=
  Claim7.holds_tied_plain_at .later [] [.data] true (true, "58b6b481e969e72b720ff011ab0f9cffa635a12db93c1569dbd034029958b849") true
    over (fun _ h => by cases h) (by kernel_rfl) (fun _ h => by cases h) receiptsCheckSpec_row_tie rfl ⟨rfl, rfl⟩ (by kernel_rfl) rfl
    (fun f fn hf hfn => by
      obtain rfl : f = 4 := Option.some.inj ((show Tryz.prog.funcNamed "franking/frankinglaw43.ReceiptsCheckSpec" = some 4 by kernel_rfl).symm.trans hf) |>.symm
      obtain rfl : fn = Tryz.f4 := (Option.some.inj (Tryz.func4.symm.trans hfn)).symm
      exact ⟨by kernel_rfl, fun j t ht => by
        rw [Tryz.params4] at ht
        have hm : t ∈ [3, 23, 23] := by simpa using Array.mem_of_getElem? ht
        have hall : ([3, 23, 23].all fun u => !Tryz.prog.wantsStandIn u) = true := by kernel_rfl
        exact (show Tryz.prog.wantsStandIn t = false by simpa using List.all_eq_true.1 hall t hm)⟩)
    (by kernel_rfl)
end receiptsCheckSpec
end Go.Proofs.YtpjobllfiimdkaaGreatDoor
