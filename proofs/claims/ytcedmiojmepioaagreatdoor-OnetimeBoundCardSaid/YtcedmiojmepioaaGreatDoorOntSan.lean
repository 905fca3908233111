/- The law's checks of known return addresses. -/
import Derived.Test.YtcedmiojmepioaaGreatDoorOntUse
import Derived.Test.YtcedmiojmepioaaGreatDoorOntSp
import Derived.Test.YtcedmiojmepioaaGreatDoorOntEq
import Derived.Test.YtcedmiojmepioaaGreatDoorLstZ
namespace Go.Proofs.YtcedmiojmepioaaGreatDoor
open Go.RowKit
set_option linter.unusedVariables false
set_option linter.unusedSimpArgs false

theorem elB_16 : elB 16 = true := by have := mulZ_el elB_4 elB_4; rwa [c_mul1] at this
theorem mul_r1 {a : Int} (h : elB a = true) : mulZ a 1 = a := mulZ_one_r h
theorem elm_4 : elmZ 4 = 4 := by unfold elmZ; rw [if_pos (by decide), if_pos elB_4]
theorem elm_1 : elmZ 1 = 1 := by unfold elmZ; rw [if_pos (by decide), if_pos elB_one]
theorem cip_1 : IsCip 4 (elmZ 4) 1 4 16 := ⟨powZ_one elB_4, by rw [elm_4, powZ_one elB_4]; exact c_mul1⟩
theorem cip_2 : IsCip 4 (elmZ 4) 2 16 64 := ⟨c_pow1, by rw [elm_4, c_pow1, mulZ_eq elB_4 elB_16]; rfl⟩
theorem cip_3 : IsCip 4 (elmZ 1) 0 1 1 := ⟨powZ_zero elB_4, by rw [elm_1, powZ_zero elB_4]; exact mulZ_one elB_one⟩
theorem cip_4 : IsCip 4 (elmZ 4) 0 1 4 := ⟨powZ_zero elB_4, by rw [elm_4, powZ_zero elB_4]; exact mul_r1 elB_4⟩
theorem pos_self (d : List Int) : IsPos [d] d 0 := by
  refine ⟨by simp, fun q hq => by omega, fun q h1 h2 => ?_⟩
  have h3 : q < 1 := h2
  obtain rfl : q = 0 := by omega
  exact ltD_irrefl d
set_option maxRecDepth 100000 in
set_option maxHeartbeats 8000000 in
theorem sane16_any (w : World) (hk : Hid (KeysAt w)) : Calls Tryz.prog 7 #[] w fun e w' => e = .returned (.bool true) ∧ Below w.heap.size w w' := by
  obtain ⟨ds, hds⟩ := isTag 0 4 4 16
  obtain ⟨es, hes⟩ := isTag 0 4 16 64
  have HDS := Lib.hid hds
  have HES := Lib.hid hes
  have HL := Lib.hid hds.len
  have HR := Lib.hid hds.rng
  have LE := Lib.hid hes.len
  have HRC := Lib.hid (show IsRC 0 4 4 16 ds 0 from .inr ⟨partB_iff.2 ⟨by decide, elB_4, elB_4, elB_16⟩, ds, hds, .inl ⟨rfl, rfl⟩⟩)
  have HRZ := Lib.hid (show IsRC 0 0 0 0 (List.replicate 32 0) 160 from .inl ⟨by unfold partB; rw [elB_0]; simp, rfl⟩)
  have EQ := eqDig_same ds HL.out
  have B0 := Lib.hid (Below.refl w.heap.size w)
  clear hds hes
  go_enter Tryz.func7, Tryz.ntmps7
  go_wp2_with (first
    | (go_at_call 8; refine (omake_line 64 4 1 0 _ (Lib.hid (by decide))).mono ?_; rintro e w1 ⟨rfl, hb⟩; have B1 := Lib.hid (bel_trans B0.out hb); clear hb)
    | (refine list_storeR rfl (.tmp 1) (.tmp 24) rfl w1.heap.size rfl 0 0 0 0 (List.replicate 32 0) rfl rfl 0 0 0 0 (List.replicate 32 0) (RBlk.new w1) ?_)
  )
  intro w1' qw1 kw1
  have Kw1 := Lib.hid ((bel_alloc1 w1 _).trans (kw1.below (Nat.le_refl _)))
  have Qw1 := Lib.hid qw1
  clear qw1 kw1
  have B2 := Lib.hid (bel_trans B1.out Kw1.out)
  clear Kw1 Qw1
  go_upto_region 2 with fail
  go_wp2_with (first
    | (go_at_call 8; refine (omake_key 0 2 1 0 _ (Lib.hid (by decide)) (Lib.hid elB_2)).mono ?_; rintro e w2 ⟨rfl, hb⟩; have B3 := Lib.hid (bel_trans B2.out hb); clear hb)
    | (refine list_storeR rfl (.tmp 3) (.tmp 28) rfl w2.heap.size rfl 0 0 0 0 (List.replicate 32 0) rfl rfl 0 0 0 0 (List.replicate 32 0) (RBlk.new w2) ?_)
  )
  intro w2' qw2 kw2
  have Kw2 := Lib.hid ((bel_alloc1 w2 _).trans (kw2.below (Nat.le_refl _)))
  have Qw2 := Lib.hid qw2
  clear qw2 kw2
  have B4 := Lib.hid (bel_trans B3.out Kw2.out)
  clear Kw2 Qw2
  go_upto_region 3 with fail
  go_wp2_with (first
    | (go_at_call 8; refine (omake_word 0 4 0 0 _ (Lib.hid (by decide)) (Lib.hid elB_4) (Lib.hid (by decide))).mono ?_; rintro e w3 ⟨rfl, hb⟩; have B5 := Lib.hid (bel_trans B4.out hb); clear hb)
    | (refine list_storeR rfl (.tmp 5) (.tmp 32) rfl w3.heap.size rfl 0 0 0 0 (List.replicate 32 0) rfl rfl 0 0 0 0 (List.replicate 32 0) (RBlk.new w3) ?_)
  )
  intro w3' qw3 kw3
  have Kw3 := Lib.hid ((bel_alloc1 w3 _).trans (kw3.below (Nat.le_refl _)))
  have Qw3 := Lib.hid qw3
  clear qw3 kw3
  have B6 := Lib.hid (bel_trans B5.out Kw3.out)
  clear Kw3 Qw3
  go_upto_region 4 with fail
  go_wp2_with (first
    | (go_at_call 8; refine (omake_ok 0 4 4 1 _ (Lib.hid (by decide)) (Lib.hid elB_4) (Lib.hid (by decide)) 4 16 ds (Lib.hid cip_1) HDS (Lib.hid (hk.out.below B6.out))).mono ?_; rintro e w4 ⟨rfl, hb⟩; have B7 := Lib.hid (bel_trans B6.out hb); clear hb)
    | (refine list_storeR rfl (.tmp 7) (.tmp 36) rfl w4.heap.size rfl 0 4 4 16 ds rfl HL.out 0 0 0 0 (List.replicate 32 0) (RBlk.new w4) ?_)
  )
  intro w4' qw4 kw4
  have Kw4 := Lib.hid ((bel_alloc1 w4 _).trans (kw4.below (Nat.le_refl _)))
  have Qw4 := Lib.hid qw4
  clear qw4 kw4
  have B8 := Lib.hid (bel_trans B7.out Kw4.out)
  obtain ⟨xb, hxb⟩ : ∃ q, w4.heap.size = q := ⟨_, rfl⟩
  rw [hxb] at Qw4 ⊢
  clear hxb
  have X8 := Qw4
  clear Kw4
  go_upto_region 5 with fail
  go_wp2_with (first
    | (go_at_call 8; refine (omake_ok 0 4 4 2 _ (Lib.hid (by decide)) (Lib.hid elB_4) (Lib.hid (by decide)) 16 64 es (Lib.hid cip_2) HES (Lib.hid (hk.out.below B8.out))).mono ?_; rintro e w5 ⟨rfl, hb⟩; have B9 := Lib.hid (bel_trans B8.out hb); have X9 := Lib.hid (X8.out.bel hb); clear hb)
    | (refine list_storeR rfl (.tmp 9) (.tmp 40) rfl w5.heap.size rfl 0 4 16 64 es rfl LE.out 0 0 0 0 (List.replicate 32 0) (RBlk.new w5) ?_)
  )
  intro w5' qw5 kw5
  have Kw5 := Lib.hid ((bel_alloc1 w5 _).trans (kw5.below (Nat.le_refl _)))
  have Qw5 := Lib.hid qw5
  clear qw5 kw5
  have B10 := Lib.hid (bel_trans B9.out Kw5.out)
  have X10 := Lib.hid (X9.out.bel Kw5.out)
  obtain ⟨yb, hyb⟩ : ∃ q, w5.heap.size = q := ⟨_, rfl⟩
  rw [hyb] at Qw5 ⊢
  clear hyb
  have Y10 := Qw5
  clear Kw5
  go_upto_region 6 with fail
  have HSN : ∀ q : World, SrcL q none 0 0 [] := fun q => ⟨rfl, Nat.le_refl _, by decide, .inl ⟨rfl, fun _ => rfl⟩⟩
  have HAN := Lib.hid (show adjOK [] from fun j hj => by simp at hj)
  have HPN := Lib.hid (show IsPos [] ds 0 from ⟨Nat.le_refl _, fun q hq => by omega, fun q h1 h2 => by simp at h2⟩)
  have HFN := Lib.hid (show hasD [] ds = false from rfl)
  go_upto_region 7 with (first
    | (refine list_loadR (by rfl) (.tmp 7) rfl xb rfl 0 4 4 16 ds X10.out ?_)
    | (go_at_call 15; refine (ospend_ok 0 4 4 16 ds [] none 0 0 _ HL HR (Lib.hid Dgs.nil) (Lib.hid (HSN _)) (by omega) (Lib.hid (hk.out.below B10.out)) HRC HAN 0 HPN HFN).mono ?_; rintro e w6 ⟨v6, rfl, o6, hb⟩; have O6 := Lib.hid o6; have B11 := Lib.hid (bel_trans B10.out hb); have X11 := Lib.hid (X10.out.bel hb); have Y11 := Lib.hid (Y10.out.bel hb); clear hb o6)
  )
  have HDP := Lib.hid (show Dgs (putD [] ds 0) from Dgs.put Dgs.nil HL.out HR.out 0)
  obtain ⟨up, uc, hv6, hus⟩ := ownR_src HDP.out O6.out
  subst v6
  have hpl : (putD [] ds 0).length = 1 := rfl
  have hpe : putD [] ds 0 = [ds] := rfl
  rw [hpl, hpe] at hus
  rw [hpl]
  rw [hpe] at HDP
  obtain ⟨ub, uo, rfl, _, _⟩ := hus.pos (by omega)
  have U11 := Lib.hid hus
  clear hus hpl hpe O6 HSN HPN HAN
  have HA1 := Lib.hid (show adjOK [ds] from fun j hj => by simp at hj)
  have HP1 := Lib.hid (pos_self ds)
  have HF1 := Lib.hid (show hasD [ds] ds = true by unfold hasD; simp)
  go_upto_region 8 with (first
    | (refine list_loadR (by rfl) (.tmp 7) rfl xb rfl 0 4 4 16 ds X11.out ?_)
    | (go_at_call 15; refine (ospend_found 0 4 4 16 ds [ds] (some ⟨ub, uo, none⟩) 1 uc _ HL HR HDP U11 (by omega) (Lib.hid (hk.out.below B11.out)) HRC HA1 0 HP1 HF1).mono ?_; rintro e w7 ⟨rfl, hb⟩; have B12 := Lib.hid (bel_trans B11.out hb); have X12 := Lib.hid (X11.out.bel hb); have Y12 := Lib.hid (Y11.out.bel hb); have U12 := Lib.hid (U11.out.below hb); clear hb)
  )
  clear HA1 HP1 HF1
  go_upto_region 9 with (first
    | (refine list_loadR (by rfl) (.tmp 7) rfl xb rfl 0 4 4 16 ds X12.out ?_)
    | (go_at_call 13; refine (ouse_ok 0 4 4 16 ds 4 4 0 0 1 _ HL (Lib.hid (hk.out.below B12.out)) HRC (Lib.hid (by decide)) (Lib.hid (by decide)) (Lib.hid elB_4) (Lib.hid ⟨by decide, by decide, by decide⟩) 1 1 1 4 4 16 4 16 (Lib.hid cip_3) (Lib.hid cip_4) (Lib.hid cip_1) (Lib.hid (mul_r1 elB_4)) (Lib.hid (mul_r1 elB_16))).mono ?_; rintro e w8 ⟨rfl, hb⟩; have B13 := Lib.hid (bel_trans B12.out hb); have X13 := Lib.hid (X12.out.bel hb); have Y13 := Lib.hid (Y12.out.bel hb); have U13 := Lib.hid (U12.out.below hb); clear hb)
  )
  have Kw8 := Lib.hid (bel_alloc1 w8 (.cells #[.int .i64 4, .int .i64 16, .int .i64 1, .int .i64 4, .int .i64 4, .int .i64 16] 39))
  have Qw8 := Lib.hid (Blk.new w8 #[.int .i64 4, .int .i64 16, .int .i64 1, .int .i64 4, .int .i64 4, .int .i64 16] 39)
  generalize World.alloc w8 _ = w8' at Kw8 Qw8 ⊢
  generalize w8.heap.size = w8b at Qw8 ⊢
  have B14 := Lib.hid (bel_trans B13.out Kw8.out)
  have X14 := Lib.hid (X13.out.bel Kw8.out)
  have Y14 := Lib.hid (Y13.out.bel Kw8.out)
  have U14 := Lib.hid (U13.out.below Kw8.out)
  have S14 := Qw8
  clear Kw8
  go_upto_region 10 with (first
    | (refine list_loadR (by rfl) (.tmp 7) rfl xb rfl 0 4 4 16 ds X14.out ?_)
    | (go_at_call 13; refine (ouse_ret 0 0 0 0 (List.replicate 32 0) 1 1 0 0 0 _ (Lib.hid rfl) (Lib.hid (hk.out.below B14.out)) HRZ).mono ?_; rintro e w9 ⟨rfl, hb⟩; have B15 := Lib.hid (bel_trans B14.out hb); have X15 := Lib.hid (X14.out.bel hb); have Y15 := Lib.hid (Y14.out.bel hb); have U15 := Lib.hid (U14.out.below hb); have S15 := Lib.hid (S14.out.below hb S14.out.lt); clear hb)
  )
  have Kw9 := Lib.hid (bel_alloc1 w9 (.cells #[.int .i64 0, .int .i64 0, .int .i64 0, .int .i64 0, .int .i64 0, .int .i64 0] 39))
  have Qw9 := Lib.hid (Blk.new w9 #[.int .i64 0, .int .i64 0, .int .i64 0, .int .i64 0, .int .i64 0, .int .i64 0] 39)
  generalize World.alloc w9 _ = w9' at Kw9 Qw9 ⊢
  generalize w9.heap.size = w9b at Qw9 ⊢
  have B16 := Lib.hid (bel_trans B15.out Kw9.out)
  have X16 := Lib.hid (X15.out.bel Kw9.out)
  have Y16 := Lib.hid (Y15.out.bel Kw9.out)
  have U16 := Lib.hid (U15.out.below Kw9.out)
  have S16 := Lib.hid (S15.out.below Kw9.out S15.out.lt)
  clear Kw9
  go_upto_region 11 with (first
    | (refine list_loadR (by rfl) (.tmp 7) rfl xb rfl 0 4 4 16 ds X16.out ?_)
    | (go_at_call 13; refine (ouse_w0 0 4 4 16 ds 0 1 0 0 0 _ HL (Lib.hid (hk.out.below B16.out)) HRC (Lib.hid (by decide))).mono ?_; rintro e wa ⟨rfl, hb⟩; have B17 := Lib.hid (bel_trans B16.out hb); have X17 := Lib.hid (X16.out.bel hb); have Y17 := Lib.hid (Y16.out.bel hb); have U17 := Lib.hid (U16.out.below hb); have S17 := Lib.hid (S16.out.below hb S16.out.lt); clear hb)
  )
  have Kwa := Lib.hid (bel_alloc1 wa (.cells #[.int .i64 0, .int .i64 0, .int .i64 0, .int .i64 0, .int .i64 0, .int .i64 0] 39))
  have Qwa := Lib.hid (Blk.new wa #[.int .i64 0, .int .i64 0, .int .i64 0, .int .i64 0, .int .i64 0, .int .i64 0] 39)
  generalize World.alloc wa _ = wa' at Kwa Qwa ⊢
  generalize wa.heap.size = wab at Qwa ⊢
  have B18 := Lib.hid (bel_trans B17.out Kwa.out)
  have X18 := Lib.hid (X17.out.bel Kwa.out)
  have Y18 := Lib.hid (Y17.out.bel Kwa.out)
  have U18 := Lib.hid (U17.out.below Kwa.out)
  have S18 := Lib.hid (S17.out.below Kwa.out S17.out.lt)
  clear Kwa
  go_upto_region 12 with fail
  refine wp_region_any (by kernel_rfl) ?_
  change wpAny _ _ _ _ _ _ _ (World.drew _)
  generalize hWD : World.drew _ = W
  have BW := Lib.hid (show Below w.heap.size w W by rw [← hWD]; exact B18.out.drew)
  have XW := Lib.hid (show RBlk W xb 0 4 4 16 ds by rw [← hWD]; exact X18.out)
  have YW := Lib.hid (show RBlk W yb 0 4 16 64 es by rw [← hWD]; exact Y18.out)
  have SW := Lib.hid (show Blk W w8b #[.int .i64 4, .int .i64 16, .int .i64 1, .int .i64 4, .int .i64 4, .int .i64 16] 39 by rw [← hWD]; exact S18.out)
  have hUW : SrcL W (some ⟨ub, uo, none⟩) 1 uc [ds] := by rw [← hWD]; exact U18.out
  obtain ⟨b', o', hq, hub, hby⟩ := hUW.pos (by omega)
  obtain ⟨rfl, rfl⟩ : ub = b' ∧ uo = o' := by simpa using hq
  have hby2 : BytesAt W ub uo ds := by simpa using hby
  have TW := Lib.hid hby2
  have LUB := Lib.hid hub
  have hc1 := Lib.hid hUW.2.1
  clear hWD hUW hq hub hby hby2
  have hCD : ∀ u, Ext W u → Ext W u := fun u hu => hu
  refine region_U (D := Ext W) (Ext W) [44] (Ext.refl W) ?_
  refine anyU_takeP (i := 0) (j := 44) (v := .bool true) 112 [] rfl rfl (by kernel_rfl) (by kernel_rfl) (by kernel_rfl) (fun _ _ _ h => h) (by kernel_rfl) (Ext.stable _) hCD (yieldsU_val rfl (fun u hu => by go_simp)) ?_
  refine anyU_takeP (i := 1) (j := 44) (v := .bool true) 113 [] rfl rfl (by kernel_rfl) (by kernel_rfl) (by kernel_rfl) (fun _ _ _ h => h) (by kernel_rfl) (Ext.stable _) hCD (yieldsU_val rfl (fun u hu => by go_simp)) ?_
  refine anyU_takeP (i := 2) (j := 44) (v := .pointer (some ⟨xb, 2, none⟩)) 114 [] rfl rfl (by kernel_rfl) (by kernel_rfl) (by kernel_rfl) (fun _ _ _ h => h) (by kernel_rfl) (Ext.stable _) hCD (yieldsU_val rfl (fun u hu => by go_simp)) ?_
  refine anyU_takeP (i := 3) (j := 44) (v := .agg #[.int .i64 4, .int .i64 16]) 115 [] rfl rfl (by kernel_rfl) (by kernel_rfl) (by kernel_rfl) (fun _ _ _ h => h) (by kernel_rfl) (Ext.stable _) hCD (yieldsU_val rfl (fun u hu => by obtain ⟨c0, c1, c2, c3⟩ := (XW.out.bel hu).ints; go_simp)) ?_
  simp only [Act.put, List.setIfInBounds_toArray, List.set_cons_succ, List.set_cons_zero]
  refine anyU_takeP (i := 4) (j := 44) (v := .agg #[.int .i64 4, .int .i64 16]) 116 [] rfl rfl (by kernel_rfl) (by kernel_rfl) (by kernel_rfl) (fun _ _ _ h => h) (by kernel_rfl) (Ext.stable _) hCD (yieldsU_val rfl (fun u hu => by go_simp)) ?_
  refine anyU_takeP (i := 5) (j := 44) (v := .bool true) 117 [] rfl rfl (by kernel_rfl) (by kernel_rfl) (by kernel_rfl) (fun _ _ _ h => h) (by kernel_rfl) (Ext.stable _) hCD (yieldsU_val rfl (fun u hu => by go_simp)) ?_
  refine anyU_takeP (i := 6) (j := 44) (v := .bool true) 118 [] rfl rfl (by kernel_rfl) (by kernel_rfl) (by kernel_rfl) (fun _ _ _ h => h) (by kernel_rfl) (Ext.stable _) hCD (yieldsU_val rfl (fun u hu => by go_simp)) ?_
  refine anyU_takeP (i := 7) (j := 44) (v := .bool true) 119 [] rfl rfl (by kernel_rfl) (by kernel_rfl) (by kernel_rfl) (fun _ _ _ h => h) (by kernel_rfl) (Ext.stable _) hCD (yieldsU_val rfl (fun u hu => by go_simp)) ?_
  simp only [Act.put, List.setIfInBounds_toArray, List.set_cons_succ, List.set_cons_zero]
  refine anyU_takeP (i := 8) (j := 44) (v := .pointer (some ⟨yb, 2, none⟩)) 120 [] rfl rfl (by kernel_rfl) (by kernel_rfl) (by kernel_rfl) (fun _ _ _ h => h) (by kernel_rfl) (Ext.stable _) hCD (yieldsU_val rfl (fun u hu => by go_simp)) ?_
  refine anyU_takeP (i := 9) (j := 44) (v := .agg #[.int .i64 16, .int .i64 64]) 121 [] rfl rfl (by kernel_rfl) (by kernel_rfl) (by kernel_rfl) (fun _ _ _ h => h) (by kernel_rfl) (Ext.stable _) hCD (yieldsU_val rfl (fun u hu => by obtain ⟨c0, c1, c2, c3⟩ := (YW.out.bel hu).ints; go_simp)) ?_
  refine anyU_takeP (i := 10) (j := 44) (v := .agg #[.int .i64 16, .int .i64 64]) 122 [] rfl rfl (by kernel_rfl) (by kernel_rfl) (by kernel_rfl) (fun _ _ _ h => h) (by kernel_rfl) (Ext.stable _) hCD (yieldsU_val rfl (fun u hu => by go_simp)) ?_
  refine anyU_takeP (i := 11) (j := 44) (v := .bool true) 123 [] rfl rfl (by kernel_rfl) (by kernel_rfl) (by kernel_rfl) (fun _ _ _ h => h) (by kernel_rfl) (Ext.stable _) hCD (yieldsU_val rfl (fun u hu => by go_simp)) ?_
  simp only [Act.put, List.setIfInBounds_toArray, List.set_cons_succ, List.set_cons_zero]
  refine anyU_takeP (i := 12) (j := 44) (v := .bool true) 124 [] rfl rfl (by kernel_rfl) (by kernel_rfl) (by kernel_rfl) (fun _ _ _ h => h) (by kernel_rfl) (Ext.stable _) hCD (yieldsU_val rfl (fun u hu => by go_simp)) ?_
  refine anyU_takeP (i := 13) (j := 44) (v := .bool true) 125 [] rfl rfl (by kernel_rfl) (by kernel_rfl) (by kernel_rfl) (fun _ _ _ h => h) (by kernel_rfl) (Ext.stable _) hCD (yieldsU_val rfl (fun u hu => by go_simp)) ?_
  refine anyU_takeP (i := 14) (j := 44) (v := .slice (some ⟨ub, uo, none⟩) 1 uc) 126 [] rfl rfl (by kernel_rfl) (by kernel_rfl) (by kernel_rfl) (fun _ _ _ h => h) (by kernel_rfl) (Ext.stable _) hCD (yieldsU_val rfl (fun u hu => by go_simp)) ?_
  refine anyU_takeP (i := 15) (j := 44) (v := .int .i64 1) 127 [] rfl rfl (by kernel_rfl) (by kernel_rfl) (by kernel_rfl) (fun _ _ _ h => h) (by kernel_rfl) (Ext.stable _) hCD (yieldsU_val rfl (fun u hu => by go_simp)) ?_
  simp only [Act.put, List.setIfInBounds_toArray, List.set_cons_succ, List.set_cons_zero]
  refine anyU_takeP (i := 16) (j := 44) (v := .bool true) 128 [] rfl rfl (by kernel_rfl) (by kernel_rfl) (by kernel_rfl) (fun _ _ _ h => h) (by kernel_rfl) (Ext.stable _) hCD (yieldsU_val rfl (fun u hu => by go_simp)) ?_
  refine anyU_takeP (i := 17) (j := 44) (v := .bool true) 129 [] rfl rfl (by kernel_rfl) (by kernel_rfl) (by kernel_rfl) (fun _ _ _ h => h) (by kernel_rfl) (Ext.stable _) hCD (yieldsU_val rfl (fun u hu => by go_simp)) ?_
  refine anyU_takeP (i := 18) (j := 44) (v := .bool true) 130 [] rfl rfl (by kernel_rfl) (by kernel_rfl) (by kernel_rfl) (fun _ _ _ h => h) (by kernel_rfl) (Ext.stable _) hCD (yieldsU_val rfl (fun u hu => by go_simp)) ?_
  refine anyU_takeP (i := 19) (j := 44) (v := .slice (some ⟨ub, uo, none⟩) 1 uc) 131 [] rfl rfl (by kernel_rfl) (by kernel_rfl) (by kernel_rfl) (fun _ _ _ h => h) (by kernel_rfl) (Ext.stable _) hCD (yieldsU_val rfl (fun u hu => by go_simp)) ?_
  simp only [Act.put, List.setIfInBounds_toArray, List.set_cons_succ, List.set_cons_zero]
  refine anyU_takeP (i := 20) (j := 44) (v := .pointer (some ⟨ub, uo, none⟩)) 132 [] rfl rfl (by kernel_rfl) (by kernel_rfl) (by kernel_rfl) (fun _ _ _ h => h) (by kernel_rfl) (Ext.stable _) hCD (yieldsU_val rfl (fun u hu => by go_simp)) ?_
  refine anyU_takeP (i := 21) (j := 44) (v := .agg (bv ds).toArray) 133 [] rfl rfl (by kernel_rfl) (by kernel_rfl) (by kernel_rfl) (fun _ _ _ h => h) (by kernel_rfl) (Ext.stable _) hCD (yieldsU_of_C (yields_loadM (by rfl) (.tmp 132) rfl ub uo rfl ds HL.out (fun u hu => TW.out.below hu LUB.out))) ?_
  refine anyU_takeP (i := 22) (j := 44) (v := .pointer (some ⟨xb, 4, none⟩)) 134 [] rfl rfl (by kernel_rfl) (by kernel_rfl) (by kernel_rfl) (fun _ _ _ h => h) (by kernel_rfl) (Ext.stable _) hCD (yieldsU_val rfl (fun u hu => by go_simp)) ?_
  refine anyU_takeP (i := 23) (j := 44) (v := .agg (bv ds).toArray) 135 [] rfl rfl (by kernel_rfl) (by kernel_rfl) (by kernel_rfl) (fun _ _ _ h => h) (by kernel_rfl) (Ext.stable _) hCD (yieldsU_of_C (yields_loadM (by rfl) (.tmp 134) rfl xb 4 rfl ds HL.out (fun u hu => (XW.out.bel hu).tag))) ?_
  simp only [Act.put, List.setIfInBounds_toArray, List.set_cons_succ, List.set_cons_zero]
  refine anyU_takeP (i := 24) (j := 44) (v := .bool true) 136 [] rfl rfl (by kernel_rfl) (by kernel_rfl) (by kernel_rfl) (fun _ _ _ h => h) (by kernel_rfl) (Ext.stable _) hCD (yieldsU_val rfl (fun u hu => by go_simp)) ?_
  refine anyU_takeP (i := 25) (j := 44) (v := .bool true) 137 [] rfl rfl (by kernel_rfl) (by kernel_rfl) (by kernel_rfl) (fun _ _ _ h => h) (by kernel_rfl) (Ext.stable _) hCD (yieldsU_val rfl (fun u hu => by go_simp)) ?_
  refine anyU_takeP (i := 26) (j := 44) (v := .bool true) 138 [] rfl rfl (by kernel_rfl) (by kernel_rfl) (by kernel_rfl) (fun _ _ _ h => h) (by kernel_rfl) (Ext.stable _) hCD (yieldsU_val rfl (fun u hu => by go_simp)) ?_
  refine anyU_takeP (i := 27) (j := 44) (v := sealedV 4 16 1 4 4 16) 139 [] rfl rfl (by kernel_rfl) (by kernel_rfl) (by kernel_rfl) (fun _ _ _ h => h) (by kernel_rfl) (Ext.stable _) hCD (yieldsU_val rfl (fun u hu => by have s := SW.out.below hu SW.out.lt; have s0 := s.cell 0; have s1 := s.cell 1; have s2 := s.cell 2; have s3 := s.cell 3; have s4 := s.cell 4; have s5 := s.cell 5; go_simp)) ?_
  simp only [Act.put, List.setIfInBounds_toArray, List.set_cons_succ, List.set_cons_zero]
  refine anyU_takeP (i := 28) (j := 44) (v := .agg #[.int .i64 4, .int .i64 16]) 140 [] rfl rfl (by kernel_rfl) (by kernel_rfl) (by kernel_rfl) (fun _ _ _ h => h) (by kernel_rfl) (Ext.stable _) hCD (yieldsU_val rfl (fun u hu => by go_simp)) ?_
  refine anyU_takeP (i := 29) (j := 44) (v := .agg #[.int .i64 1, .int .i64 4]) 141 [] rfl rfl (by kernel_rfl) (by kernel_rfl) (by kernel_rfl) (fun _ _ _ h => h) (by kernel_rfl) (Ext.stable _) hCD (yieldsU_val rfl (fun u hu => by go_simp)) ?_
  refine anyU_takeP (i := 30) (j := 44) (v := .agg #[.int .i64 4, .int .i64 16]) 142 [] rfl rfl (by kernel_rfl) (by kernel_rfl) (by kernel_rfl) (fun _ _ _ h => h) (by kernel_rfl) (Ext.stable _) hCD (yieldsU_val rfl (fun u hu => by go_simp)) ?_
  refine anyU_takeP (i := 31) (j := 44) (v := sealedV 4 16 1 4 4 16) 143 [] rfl rfl (by kernel_rfl) (by kernel_rfl) (by kernel_rfl) (fun _ _ _ h => h) (by kernel_rfl) (Ext.stable _) hCD (yieldsU_val rfl (fun u hu => by go_simp)) ?_
  simp only [Act.put, List.setIfInBounds_toArray, List.set_cons_succ, List.set_cons_zero]
  refine anyU_takeP (i := 32) (j := 44) (v := .bool true) 144 [] rfl rfl (by kernel_rfl) (by kernel_rfl) (by kernel_rfl) (fun _ _ _ h => h) (by kernel_rfl) (Ext.stable _) hCD (yieldsU_val rfl (fun u hu => by go_simp)) ?_
  refine anyU_takeP (i := 33) (j := 44) (v := .bool true) 145 [] rfl rfl (by kernel_rfl) (by kernel_rfl) (by kernel_rfl) (fun _ _ _ h => h) (by kernel_rfl) (Ext.stable _) hCD (yieldsU_val rfl (fun u hu => by go_simp)) ?_
  refine anyU_takeP (i := 34) (j := 44) (v := .bool true) 146 [] rfl rfl (by kernel_rfl) (by kernel_rfl) (by kernel_rfl) (fun _ _ _ h => h) (by kernel_rfl) (Ext.stable _) hCD (yieldsU_val rfl (fun u hu => by go_simp)) ?_
  refine anyU_takeP (i := 35) (j := 44) (v := .agg (rtv 0 4 4 16 ds).toArray) 147 [] rfl rfl (by kernel_rfl) (by kernel_rfl) (by kernel_rfl) (fun _ _ _ h => h) (by kernel_rfl) (Ext.stable _) hCD (yieldsU_of_C (yields_loadR (by rfl) (.tmp 7) rfl xb rfl 0 4 4 16 ds HL.out (fun u hu => XW.out.bel hu))) ?_
  simp only [Act.put, List.setIfInBounds_toArray, List.set_cons_succ, List.set_cons_zero]
  refine anyU_takeP (i := 36) (j := 44) (v := .int .i64 0) 148 [] rfl rfl (by kernel_rfl) (by kernel_rfl) (by kernel_rfl) (fun _ _ _ h => h) (by kernel_rfl) (Ext.stable _) hCD (yieldsU_call rfl 10 _ _ rfl #[.agg (rtv 0 4 4 16 ds).toArray] (by simp [Act.eval, Act.put]) (fun u => by go_simp) (fun u hu => ocheck_any 0 4 4 16 ds 0 u HL HRC (Lib.hid ((hk.out.below BW.out).below hu)))) ?_
  refine anyU_takeP (i := 37) (j := 44) (v := .bool true) 149 [] rfl rfl (by kernel_rfl) (by kernel_rfl) (by kernel_rfl) (fun _ _ _ h => h) (by kernel_rfl) (Ext.stable _) hCD (yieldsU_val rfl (fun u hu => by go_simp)) ?_
  refine anyU_takeP (i := 38) (j := 44) (v := .bool true) 150 [] rfl rfl (by kernel_rfl) (by kernel_rfl) (by kernel_rfl) (fun _ _ _ h => h) (by kernel_rfl) (Ext.stable _) hCD (yieldsU_val rfl (fun u hu => by go_simp)) ?_
  refine anyU_takeP (i := 39) (j := 44) (v := .bool true) 151 [] rfl rfl (by kernel_rfl) (by kernel_rfl) (by kernel_rfl) (fun _ _ _ h => h) (by kernel_rfl) (Ext.stable _) hCD (yieldsU_val rfl (fun u hu => by go_simp)) ?_
  simp only [Act.put, List.setIfInBounds_toArray, List.set_cons_succ, List.set_cons_zero]
  refine anyU_takeP (i := 40) (j := 44) (v := .agg (rtv 0 0 0 0 (List.replicate 32 0)).toArray) 152 [] rfl rfl (by kernel_rfl) (by kernel_rfl) (by kernel_rfl) (fun _ _ _ h => h) (by kernel_rfl) (Ext.stable _) hCD (yieldsU_val rfl (fun u hu => by exact exec_build 27 #[] rfl [] rfl _ built_r0 u)) ?_
  refine anyU_takeP (i := 41) (j := 44) (v := .int .i64 160) 153 [] rfl rfl (by kernel_rfl) (by kernel_rfl) (by kernel_rfl) (fun _ _ _ h => h) (by kernel_rfl) (Ext.stable _) hCD (yieldsU_call rfl 10 _ _ rfl #[.agg (rtv 0 0 0 0 (List.replicate 32 0)).toArray] (by simp [Act.eval, Act.put]) (fun u => by go_simp) (fun u hu => ocheck_any 0 0 0 0 (List.replicate 32 0) 160 u (Lib.hid rfl) HRZ (Lib.hid ((hk.out.below BW.out).below hu)))) ?_
  refine anyU_takeP (i := 42) (j := 44) (v := .bool true) 154 [] rfl rfl (by kernel_rfl) (by kernel_rfl) (by kernel_rfl) (fun _ _ _ h => h) (by kernel_rfl) (Ext.stable _) hCD (yieldsU_val rfl (fun u hu => by go_simp)) ?_
  refine anyU_takeP (i := 43) (j := 44) (v := .bool true) 155 [] rfl rfl (by kernel_rfl) (by kernel_rfl) (by kernel_rfl) (fun _ _ _ h => h) (by kernel_rfl) (Ext.stable _) hCD (yieldsU_val rfl (fun u hu => by go_simp)) ?_
  simp only [Act.put, List.setIfInBounds_toArray, List.set_cons_succ, List.set_cons_zero]
  refine anyU_tail 44 [] rfl rfl (by decide) (by kernel_rfl) ?_
  intro u9 hu9
  simp only [Act.put, List.filterMap_cons, List.filterMap_nil, List.getElem?_cons_succ, List.getElem?_cons_zero]
  have B9 := Lib.hid (bel_trans BW.out hu9)
  clear hu9
  go_wp2_with fail
  go_ret
  exact ⟨rfl, B9.out⟩
end Go.Proofs.YtcedmiojmepioaaGreatDoor
