/- The reference's Sync, where it stops. -/
import Derived.Test.YtackklbifppfeaaDskRSy
namespace Go.Proofs.Ytackklbifppfeaa
open Go.RowKit
set_option linter.unusedVariables false
set_option linter.unusedSimpArgs false

theorem torn_ok2 {w : World} {b c : Nat} {ob xb : List Int} (h : BytesAt w b 0 (tornB ob xb)) (hlt : b < w.heap.size) (ho : ob.length = 128) (hx : xb.length = 128) (h1 : ∀ z ∈ ob, 0 ≤ z ∧ z ≤ 255) (h2 : ∀ z ∈ xb, 0 ≤ z ∧ z ≤ 255) (hc : 128 ≤ c) (hc2 : c ≤ 9223372036854775807) : RwOk w ⟨some ⟨b, 0, none⟩, 128, c, tornB ob xb⟩ := by
  have hl : (tornB ob xb).length = 128 := by unfold tornB; rw [List.length_append, List.length_take, List.length_drop]; omega
  refine ⟨.inl ⟨hl.symm, .inr ⟨b, 0, rfl, hlt, h⟩⟩, fun z hz => ?_, by show 128 ≤ _; omega, hc, hc2⟩
  rcases List.mem_append.1 hz with h3 | h3
  · exact h2 z (List.mem_of_mem_take h3)
  · exact h1 z (List.mem_of_mem_drop h3)

set_option maxRecDepth 100000 in
set_option maxHeartbeats 4000000 in
theorem rsync_stop (m : Nat) (pa : Addr) (ps : Option Addr) (ns cs : Nat) (np cp : Nat) (rs : List Rw) (ws : List Wt) (w : World) (hz : Hid (DskV w ps ns (some pa) np (m : Int) rs ws)) (hq : Hid (runB (m : Int) false rs ws = true)) (hp1 : np ≤ cp) (hp2 : cp ≤ 9223372036854775807) (hm : m < np) :
    Calls Try.prog 24 #[.agg (dskC ps ns cs (some pa) np cp (m : Int) false)] w fun e w' => IsSyn w.heap.size ns rs ws (m : Int) w' e ∧ Below w.heap.size w w' := by
  have V0 := Lib.hid (Blk.new w (dskC ps ns cs (some pa) np cp (m : Int) false) 25)
  have h1 := Lib.hid (bel_alloc1 w (.cells (dskC ps ns cs (some pa) np cp (m : Int) false) 25))
  have VW := Lib.hid (V0.out.alloc (.cells #[.slice none 0 0, .slice none 0 0, .int .i64 0, .bool false] 25))
  have ZW := Lib.hid (Blk.new (w.alloc (.cells (dskC ps ns cs (some pa) np cp (m : Int) false) 25)) #[.slice none 0 0, .slice none 0 0, .int .i64 0, .bool false] 25)
  have h2 := Lib.hid (h1.out.alloc h1.out.size (.cells #[.slice none 0 0, .slice none 0 0, .int .i64 0, .bool false] 25))
  have H0 := Lib.hid (hz.out.below h2.out)
  have m1 := hz.out.1.2.1
  have m2 := hz.out.2.1.2.1
  obtain ⟨N, hN⟩ : ∃ N, (w.alloc (.cells (dskC ps ns cs (some pa) np cp (m : Int) false) 25)).heap.size = N := ⟨_, rfl⟩
  have hNe : N = w.heap.size + 1 := by rw [← hN]; simp
  rw [hN] at ZW
  subst hNe
  clear hN
  have HC := Lib.hid (chk_yes (run_chk hq.out))
  have HNs := Lib.hid hz.out.1.1
  have HNp := Lib.hid hz.out.2.1.1
  have HV := Lib.hid (run_facts hq.out)
  have hdl : decide (m < np) = true := by simpa using hm
  have hns : ns ≤ 4096 ∧ 1 ≤ ns := by have := HV.out.1; have := HNs.out; omega
  go_enter Try.func24, Try.ntmps24
  go_wp2_with fail
  refine (rcheck_any ps ns cs (some pa) np cp (m : Int) false rs ws _ H0).mono ?_; rintro e w1 ⟨rfl, hb⟩
  have V1 := Lib.hid (VW.out.below hb VW.out.lt)
  have Z1 := Lib.hid (ZW.out.below hb ZW.out.lt)
  have B1 := Lib.hid (h2.out.trans (hb.mono h2.out.size)); clear hb
  obtain ⟨c0, c1, c2, c3, lb⟩ := blk4_facts V1.out
  rw [HC.out]
  have SX := Lib.hid (hz.out.1.below B1.out)
  have hw1 : w.heap.size + 1 < w1.heap.size := Z1.out.lt
  go_upto_region 7 with fail
  go_cut [6] (fun s6 wx => ∃ x g c, s6 = .pointer (some ⟨x, 0, none⟩) ∧ Hid (Blk wx x (dskC (some ⟨g, 0, none⟩) ns c none 0 0 (m : Int) false) 25 ∧ RowsIn wx g rs ∧ ns ≤ c ∧ c ≤ 9223372036854775807 ∧ g ≠ x ∧ w1.heap.size ≤ x ∧ w1.heap.size ≤ g ∧ Below w1.heap.size w1 wx))
  case first =>
    refine wp_region_any (by kernel_rfl) ?_
    change wpAny _ _ _ _ _ _ _ (World.drew _)
    generalize hWD : World.drew _ = W
    have VX := Lib.hid (show Blk W w.heap.size (dskC ps ns cs (some pa) np cp (m : Int) false) 25 by rw [← hWD]; exact V1.out)
    have EW := Lib.hid (show Below w1.heap.size w1 W by rw [← hWD]; exact (Below.refl _ _).drew)
    clear hWD
    refine region_U (D := Ext W) (fun y => Ext W y ∧ (fun _ => True) y ∧ (fun _ => True) y) [8] ⟨Ext.refl W, trivial, trivial⟩ ?_
    refine anyU_takeD (i := 1) (v := .pointer (some ⟨w.heap.size, 0, none⟩)) 33 rfl rfl (by kernel_rfl) (by kernel_rfl) (by kernel_rfl) (fun _ _ _ h => h) (by kernel_rfl) ((Ext.stable W).and (Stable.and tr_st tr_st)) (fun y hy => hy.1) (yieldsU_val rfl (fun u hu => by go_simp)) ?_
    refine anyU_takeD (i := 2) (v := .slice ps ns cs) 34 rfl rfl (by kernel_rfl) (by kernel_rfl) (by kernel_rfl) (fun _ _ _ h => h) (by kernel_rfl) ((Ext.stable W).and (Stable.and tr_st tr_st)) (fun y hy => hy.1) (yieldsU_val rfl (fun u hu => by have c := (VX.out.below hu VX.out.lt).cell 0; go_simp)) ?_
    refine anyU_takeD (i := 4) (v := .pointer (some ⟨w.heap.size, 2, none⟩)) 36 rfl rfl (by kernel_rfl) (by kernel_rfl) (by kernel_rfl) (fun _ _ _ h => h) (by kernel_rfl) ((Ext.stable W).and (Stable.and tr_st tr_st)) (fun y hy => hy.1) (yieldsU_val rfl (fun u hu => by go_simp)) ?_
    refine anyU_takeD (i := 5) (v := .int .i64 (m : Int)) 37 rfl rfl (by kernel_rfl) (by kernel_rfl) (by kernel_rfl) (fun _ _ _ h => h) (by kernel_rfl) ((Ext.stable W).and (Stable.and tr_st tr_st)) (fun y hy => hy.1) (yieldsU_val rfl (fun u hu => by have c := (VX.out.below hu VX.out.lt).cell 2; simp at c; go_simp)) ?_
    simp only [Act.put, List.setIfInBounds_toArray, List.set_cons_succ, List.set_cons_zero]
    refine anyU_two 0 7 4 _ _ rfl rfl rfl rfl (by kernel_rfl) ?a07 ?b07
    case a07 =>
      intro u hu
      go_wp2_with fail
      change ∃ C' : World → Prop, _ ∧ _ ∧ _ ∧ anyU _ _ _ _ _ _ 4 _ _ _
      have hb1 : Below u.heap.size u (u.alloc (.cells #[] 35)) := bel_alloc1 u _
      have Y1 := Lib.hid (show OwnS _ W.heap.size _ [] from ownS_empty u W.heap.size hu.1.size)
      have E1 := Lib.hid (Ext.trans hu.1 hb1)
      have D1 := Lib.hid (tr_st _ _ hu.2.2 hb1)
      generalize World.alloc u _ = u1 at Y1 E1 D1 hb1 ⊢
      generalize u.heap.size = bb at Y1 ⊢
      clear hu hb1
      refine anchorF (fun y => Ext W y ∧ (SyA W bb) y ∧ (fun _ => True) y) (fun y hy => hy.1) ((Ext.stable W).and (Stable.and (syA_st W bb) tr_st)) ⟨E1.out, Y1.out, D1.out⟩ ?_
      (try simp only [Act.put])
      clear E1 Y1 D1
      refine anyU_two 3 7 3 _ _ rfl rfl rfl rfl (by kernel_rfl) ?a37 ?b37
      case a37 =>
        intro u hu
        refine appSs rfl (.tmp 32) (.tmp 34) rfl W.heap.size (.slice (some ⟨bb, 0, none⟩) 0 0) [] rfl hu.2.1 ps ns cs rs rfl (SX.out.below (EW.out.trans (Below.mono hu.1 EW.out.size))) (by omega) (by simp; omega) hu.1.size ?_
        intro v3 u1 o3 g3
        have E1 := Lib.hid (show Ext W u1 from bel_grownS hu.1 hu.2.1 g3 hu.1.size)
        have D1 := Lib.hid (show (fun _ => True) u1 from trivial)
        have o3' : OwnS u1 W.heap.size v3 rs := o3
        clear g3 hu
        obtain ⟨g, cg, hv3, _, _, _, _⟩ := o3'.rows (by rw [← HNs.out]; omega)
        rw [← HNs.out] at hv3
        subst hv3
        have Y1 := Lib.hid (show SyR W g ns cg rs u1 from o3')
        clear o3 o3'
        go_wp2_with fail
        change ∃ C' : World → Prop, _ ∧ _ ∧ _ ∧ anyU _ _ _ _ _ _ 3 _ _ _
        refine anchorF (fun y => Ext W y ∧ (SyR W g ns cg rs) y ∧ (fun _ => True) y) (fun y hy => hy.1) ((Ext.stable W).and (Stable.and (syR_st W g ns cg rs) tr_st)) ⟨E1.out, Y1.out, D1.out⟩ ?_
        (try simp only [Act.put])
        clear E1 Y1 D1
        refine anyU_takeD (i := 6) (v := .agg (dskC (some ⟨g, 0, none⟩) ns cg none 0 0 (m : Int) false)) 38 rfl rfl (by kernel_rfl) (by kernel_rfl) (by kernel_rfl) (fun _ _ _ h => h) (by kernel_rfl) ((Ext.stable W).and (Stable.and (syR_st W g ns cg rs) tr_st)) (fun y hy => hy.1) (yieldsU_val rfl (fun u hu => by go_simp)) ?_
        refine anyU_one 7 1 _ rfl rfl (by kernel_rfl) ?_
        intro u hu
        go_wp2_with fail
        change ∃ C' : World → Prop, _ ∧ _ ∧ _ ∧ anyU _ _ _ _ _ _ 1 _ _ _
        have hb1 : Below u.heap.size u (u.alloc (.cells #[.slice none 0 0, .slice none 0 0, .int .i64 0, .bool false] 25)) := bel_alloc1 u _
        have Y1 := Lib.hid (show SyD W u.heap.size _ from ⟨Blk.new u #[.slice none 0 0, .slice none 0 0, .int .i64 0, .bool false] 25, hu.1.size⟩)
        have E1 := Lib.hid (Ext.trans hu.1 hb1)
        have D1 := Lib.hid ((syR_st W g ns cg rs) _ _ hu.2.1 hb1)
        generalize World.alloc u _ = u1 at Y1 E1 D1 hb1 ⊢
        generalize u.heap.size = b6 at Y1 ⊢
        clear hu hb1
        refine anchorF (fun y => Ext W y ∧ (SyR W g ns cg rs) y ∧ (SyD W b6) y) (fun y hy => hy.1) ((Ext.stable W).and (Stable.and (syR_st W g ns cg rs) (syD_st W b6))) ⟨E1.out, D1.out, Y1.out⟩ ?_
        (try simp only [Act.put])
        clear E1 Y1 D1
        refine anyU_tail 8 [] rfl rfl (by decide) (by kernel_rfl) ?_
        intro u2 hu2
        simp only [Act.put, List.filterMap_cons, List.filterMap_nil, List.getElem?_cons_succ, List.getElem?_cons_zero]
        have b0 := hu2.2.2.1
        obtain ⟨d0, d1, d2, d3, ld⟩ := blk4_facts b0
        have f0 := b0.frozen 0; have f1 := b0.frozen 1; have f2 := b0.frozen 2; have f3 := b0.frozen 3
        obtain ⟨g', cg', hg, hg1, hg2, hg3, hg4⟩ := OwnS.rows hu2.2.1 (by rw [← HNs.out]; omega)
        rw [← HNs.out] at hg hg1
        simp at hg
        obtain ⟨rfl, rfl⟩ := hg
        have hne : g ≠ b6 := fun e => own_ne2 hu2.2.1 b0 (by rw [← e]; rfl)
        have XB := ((((b0.set 0 (.slice (some ⟨g, 0, none⟩) ns cg)).set 1 (.slice none 0 0)).set 2 (.int .i64 (m : Int))).set 3 (.bool false))
        have XR := ((((hg4.other (b' := b6) (o := 0) (v := .slice (some ⟨g, 0, none⟩) ns cg) hne).other (b' := b6) (o := 1) (v := .slice none 0 0) hne).other (b' := b6) (o := 2) (v := .int .i64 (m : Int)) hne).other (b' := b6) (o := 3) (v := .bool false) hne)
        have XE := ((((Below.setCell hu2.1 (p := ⟨b6, 0, none⟩) hu2.2.2.2 (.slice (some ⟨g, 0, none⟩) ns cg)).setCell (p := ⟨b6, 1, none⟩) hu2.2.2.2 (.slice none 0 0)).setCell (p := ⟨b6, 2, none⟩) hu2.2.2.2 (.int .i64 (m : Int))).setCell (p := ⟨b6, 3, none⟩) hu2.2.2.2 (.bool false))
        have hb6 := hu2.2.2.2
        clear hu2
        go_wp2_with fail
        go_meet
        exact ⟨b6, g, cg, rfl, Lib.hid ⟨XB, XR, hg1, hg2, hne, Nat.le_trans EW.out.size hb6, Nat.le_trans EW.out.size hg3, EW.out.trans (Below.mono XE EW.out.size)⟩⟩
      case b37 =>
        intro u hu
        go_wp2_with fail
        change ∃ C' : World → Prop, _ ∧ _ ∧ _ ∧ anyU _ _ _ _ _ _ 3 _ _ _
        have hb1 : Below u.heap.size u (u.alloc (.cells #[.slice none 0 0, .slice none 0 0, .int .i64 0, .bool false] 25)) := bel_alloc1 u _
        have Y1 := Lib.hid (show SyD W u.heap.size _ from ⟨Blk.new u #[.slice none 0 0, .slice none 0 0, .int .i64 0, .bool false] 25, hu.1.size⟩)
        have E1 := Lib.hid (Ext.trans hu.1 hb1)
        have D1 := Lib.hid ((syA_st W bb) _ _ hu.2.1 hb1)
        generalize World.alloc u _ = u1 at Y1 E1 D1 hb1 ⊢
        generalize u.heap.size = b6 at Y1 ⊢
        clear hu hb1
        refine anchorF (fun y => Ext W y ∧ (SyA W bb) y ∧ (SyD W b6) y) (fun y hy => hy.1) ((Ext.stable W).and (Stable.and (syA_st W bb) (syD_st W b6))) ⟨E1.out, D1.out, Y1.out⟩ ?_
        (try simp only [Act.put])
        clear E1 Y1 D1
        refine anyU_one 3 2 _ rfl rfl (by kernel_rfl) ?_
        intro u hu
        refine appSs rfl (.tmp 32) (.tmp 34) rfl W.heap.size (.slice (some ⟨bb, 0, none⟩) 0 0) [] rfl hu.2.1 ps ns cs rs rfl (SX.out.below (EW.out.trans (Below.mono hu.1 EW.out.size))) (by omega) (by simp; omega) hu.1.size ?_
        intro v3 u1 o3 g3
        have E1 := Lib.hid (show Ext W u1 from bel_grownS hu.1 hu.2.1 g3 hu.1.size)
        have D1 := Lib.hid (show (SyD W b6) u1 from ⟨(g3.block _ hu.2.2.1.lt (fun e => own_ne2 hu.2.1 hu.2.2.1 e.symm)).trans hu.2.2.1, hu.2.2.2⟩)
        have o3' : OwnS u1 W.heap.size v3 rs := o3
        clear g3 hu
        obtain ⟨g, cg, hv3, _, _, _, _⟩ := o3'.rows (by rw [← HNs.out]; omega)
        rw [← HNs.out] at hv3
        subst hv3
        have Y1 := Lib.hid (show SyR W g ns cg rs u1 from o3')
        clear o3 o3'
        go_wp2_with fail
        change ∃ C' : World → Prop, _ ∧ _ ∧ _ ∧ anyU _ _ _ _ _ _ 2 _ _ _
        refine anchorF (fun y => Ext W y ∧ (SyR W g ns cg rs) y ∧ (SyD W b6) y) (fun y hy => hy.1) ((Ext.stable W).and (Stable.and (syR_st W g ns cg rs) (syD_st W b6))) ⟨E1.out, Y1.out, D1.out⟩ ?_
        (try simp only [Act.put])
        clear E1 Y1 D1
        refine anyU_takeD (i := 6) (v := .agg (dskC (some ⟨g, 0, none⟩) ns cg none 0 0 (m : Int) false)) 38 rfl rfl (by kernel_rfl) (by kernel_rfl) (by kernel_rfl) (fun _ _ _ h => h) (by kernel_rfl) ((Ext.stable W).and (Stable.and (syR_st W g ns cg rs) (syD_st W b6))) (fun y hy => hy.1) (yieldsU_val rfl (fun u hu => by go_simp)) ?_
        refine anyU_tail 8 [] rfl rfl (by decide) (by kernel_rfl) ?_
        intro u2 hu2
        simp only [Act.put, List.filterMap_cons, List.filterMap_nil, List.getElem?_cons_succ, List.getElem?_cons_zero]
        have b0 := hu2.2.2.1
        obtain ⟨d0, d1, d2, d3, ld⟩ := blk4_facts b0
        have f0 := b0.frozen 0; have f1 := b0.frozen 1; have f2 := b0.frozen 2; have f3 := b0.frozen 3
        obtain ⟨g', cg', hg, hg1, hg2, hg3, hg4⟩ := OwnS.rows hu2.2.1 (by rw [← HNs.out]; omega)
        rw [← HNs.out] at hg hg1
        simp at hg
        obtain ⟨rfl, rfl⟩ := hg
        have hne : g ≠ b6 := fun e => own_ne2 hu2.2.1 b0 (by rw [← e]; rfl)
        have XB := ((((b0.set 0 (.slice (some ⟨g, 0, none⟩) ns cg)).set 1 (.slice none 0 0)).set 2 (.int .i64 (m : Int))).set 3 (.bool false))
        have XR := ((((hg4.other (b' := b6) (o := 0) (v := .slice (some ⟨g, 0, none⟩) ns cg) hne).other (b' := b6) (o := 1) (v := .slice none 0 0) hne).other (b' := b6) (o := 2) (v := .int .i64 (m : Int)) hne).other (b' := b6) (o := 3) (v := .bool false) hne)
        have XE := ((((Below.setCell hu2.1 (p := ⟨b6, 0, none⟩) hu2.2.2.2 (.slice (some ⟨g, 0, none⟩) ns cg)).setCell (p := ⟨b6, 1, none⟩) hu2.2.2.2 (.slice none 0 0)).setCell (p := ⟨b6, 2, none⟩) hu2.2.2.2 (.int .i64 (m : Int))).setCell (p := ⟨b6, 3, none⟩) hu2.2.2.2 (.bool false))
        have hb6 := hu2.2.2.2
        clear hu2
        go_wp2_with fail
        go_meet
        exact ⟨b6, g, cg, rfl, Lib.hid ⟨XB, XR, hg1, hg2, hne, Nat.le_trans EW.out.size hb6, Nat.le_trans EW.out.size hg3, EW.out.trans (Below.mono XE EW.out.size)⟩⟩
    case b07 =>
      intro u hu
      go_wp2_with fail
      change ∃ C' : World → Prop, _ ∧ _ ∧ _ ∧ anyU _ _ _ _ _ _ 4 _ _ _
      have hb1 : Below u.heap.size u (u.alloc (.cells #[.slice none 0 0, .slice none 0 0, .int .i64 0, .bool false] 25)) := bel_alloc1 u _
      have Y1 := Lib.hid (show SyD W u.heap.size _ from ⟨Blk.new u #[.slice none 0 0, .slice none 0 0, .int .i64 0, .bool false] 25, hu.1.size⟩)
      have E1 := Lib.hid (Ext.trans hu.1 hb1)
      have D1 := Lib.hid (tr_st _ _ hu.2.1 hb1)
      generalize World.alloc u _ = u1 at Y1 E1 D1 hb1 ⊢
      generalize u.heap.size = b6 at Y1 ⊢
      clear hu hb1
      refine anchorF (fun y => Ext W y ∧ (fun _ => True) y ∧ (SyD W b6) y) (fun y hy => hy.1) ((Ext.stable W).and (Stable.and tr_st (syD_st W b6))) ⟨E1.out, D1.out, Y1.out⟩ ?_
      (try simp only [Act.put])
      clear E1 Y1 D1
      refine anyU_one 0 3 _ rfl rfl (by kernel_rfl) ?_
      intro u hu
      go_wp2_with fail
      change ∃ C' : World → Prop, _ ∧ _ ∧ _ ∧ anyU _ _ _ _ _ _ 3 _ _ _
      have hb1 : Below u.heap.size u (u.alloc (.cells #[] 35)) := bel_alloc1 u _
      have Y1 := Lib.hid (show OwnS _ W.heap.size _ [] from ownS_empty u W.heap.size hu.1.size)
      have E1 := Lib.hid (Ext.trans hu.1 hb1)
      have D1 := Lib.hid ((syD_st W b6) _ _ hu.2.2 hb1)
      generalize World.alloc u _ = u1 at Y1 E1 D1 hb1 ⊢
      generalize u.heap.size = bb at Y1 ⊢
      clear hu hb1
      refine anchorF (fun y => Ext W y ∧ (SyA W bb) y ∧ (SyD W b6) y) (fun y hy => hy.1) ((Ext.stable W).and (Stable.and (syA_st W bb) (syD_st W b6))) ⟨E1.out, Y1.out, D1.out⟩ ?_
      (try simp only [Act.put])
      clear E1 Y1 D1
      refine anyU_one 3 2 _ rfl rfl (by kernel_rfl) ?_
      intro u hu
      refine appSs rfl (.tmp 32) (.tmp 34) rfl W.heap.size (.slice (some ⟨bb, 0, none⟩) 0 0) [] rfl hu.2.1 ps ns cs rs rfl (SX.out.below (EW.out.trans (Below.mono hu.1 EW.out.size))) (by omega) (by simp; omega) hu.1.size ?_
      intro v3 u1 o3 g3
      have E1 := Lib.hid (show Ext W u1 from bel_grownS hu.1 hu.2.1 g3 hu.1.size)
      have D1 := Lib.hid (show (SyD W b6) u1 from ⟨(g3.block _ hu.2.2.1.lt (fun e => own_ne2 hu.2.1 hu.2.2.1 e.symm)).trans hu.2.2.1, hu.2.2.2⟩)
      have o3' : OwnS u1 W.heap.size v3 rs := o3
      clear g3 hu
      obtain ⟨g, cg, hv3, _, _, _, _⟩ := o3'.rows (by rw [← HNs.out]; omega)
      rw [← HNs.out] at hv3
      subst hv3
      have Y1 := Lib.hid (show SyR W g ns cg rs u1 from o3')
      clear o3 o3'
      go_wp2_with fail
      change ∃ C' : World → Prop, _ ∧ _ ∧ _ ∧ anyU _ _ _ _ _ _ 2 _ _ _
      refine anchorF (fun y => Ext W y ∧ (SyR W g ns cg rs) y ∧ (SyD W b6) y) (fun y hy => hy.1) ((Ext.stable W).and (Stable.and (syR_st W g ns cg rs) (syD_st W b6))) ⟨E1.out, Y1.out, D1.out⟩ ?_
      (try simp only [Act.put])
      clear E1 Y1 D1
      refine anyU_takeD (i := 6) (v := .agg (dskC (some ⟨g, 0, none⟩) ns cg none 0 0 (m : Int) false)) 38 rfl rfl (by kernel_rfl) (by kernel_rfl) (by kernel_rfl) (fun _ _ _ h => h) (by kernel_rfl) ((Ext.stable W).and (Stable.and (syR_st W g ns cg rs) (syD_st W b6))) (fun y hy => hy.1) (yieldsU_val rfl (fun u hu => by go_simp)) ?_
      refine anyU_tail 8 [] rfl rfl (by decide) (by kernel_rfl) ?_
      intro u2 hu2
      simp only [Act.put, List.filterMap_cons, List.filterMap_nil, List.getElem?_cons_succ, List.getElem?_cons_zero]
      have b0 := hu2.2.2.1
      obtain ⟨d0, d1, d2, d3, ld⟩ := blk4_facts b0
      have f0 := b0.frozen 0; have f1 := b0.frozen 1; have f2 := b0.frozen 2; have f3 := b0.frozen 3
      obtain ⟨g', cg', hg, hg1, hg2, hg3, hg4⟩ := OwnS.rows hu2.2.1 (by rw [← HNs.out]; omega)
      rw [← HNs.out] at hg hg1
      simp at hg
      obtain ⟨rfl, rfl⟩ := hg
      have hne : g ≠ b6 := fun e => own_ne2 hu2.2.1 b0 (by rw [← e]; rfl)
      have XB := ((((b0.set 0 (.slice (some ⟨g, 0, none⟩) ns cg)).set 1 (.slice none 0 0)).set 2 (.int .i64 (m : Int))).set 3 (.bool false))
      have XR := ((((hg4.other (b' := b6) (o := 0) (v := .slice (some ⟨g, 0, none⟩) ns cg) hne).other (b' := b6) (o := 1) (v := .slice none 0 0) hne).other (b' := b6) (o := 2) (v := .int .i64 (m : Int)) hne).other (b' := b6) (o := 3) (v := .bool false) hne)
      have XE := ((((Below.setCell hu2.1 (p := ⟨b6, 0, none⟩) hu2.2.2.2 (.slice (some ⟨g, 0, none⟩) ns cg)).setCell (p := ⟨b6, 1, none⟩) hu2.2.2.2 (.slice none 0 0)).setCell (p := ⟨b6, 2, none⟩) hu2.2.2.2 (.int .i64 (m : Int))).setCell (p := ⟨b6, 3, none⟩) hu2.2.2.2 (.bool false))
      have hb6 := hu2.2.2.2
      clear hu2
      go_wp2_with fail
      go_meet
      exact ⟨b6, g, cg, rfl, Lib.hid ⟨XB, XR, hg1, hg2, hne, Nat.le_trans EW.out.size hb6, Nat.le_trans EW.out.size hg3, EW.out.trans (Below.mono XE EW.out.size)⟩⟩
  case rest =>
    obtain ⟨x, g, c, rfl, HC0⟩ := hcut
    obtain ⟨X5', R5', hcc, hcc2, hgx, hx1, hg1, E5⟩ := HC0.out
    have X5 := Lib.hid X5'
    have R5 := Lib.hid R5'
    have V5 := Lib.hid (V1.out.below E5 V1.out.lt)
    have Z5 := Lib.hid (Z1.out.below E5 Z1.out.lt)
    have B5 := Lib.hid (B1.out.trans (E5.mono B1.out.size))
    clear HC0 X5' R5' E5 c0 c1 c2 c3 lb SX
    go_wp2_with fail
    go_loopw [7] (fun i wr => ∃ k : Nat, k ≤ m ∧ i = .int .i64 k ∧ Hid (RowsIn wr g (setRows rs (ws.take k))) ∧ Hid (Blk wr x (dskC (some ⟨g, 0, none⟩) ns c none 0 0 (m : Int) false) 25) ∧ Hid (Blk wr (w.heap.size + 1) #[.slice none 0 0, .slice none 0 0, .int .i64 0, .bool false] 25) ∧ Hid (Blk wr w.heap.size (dskC ps ns cs (some pa) np cp (m : Int) false) 25) ∧ Hid (Below w.heap.size w wr)) (fun i _ => m - (intOf i).toNat)
    case atStart => exact ⟨0, by omega, rfl, Lib.hid (by rw [List.take_zero]; exact R5.out), X5, Z5, V5, B5⟩
    case round =>
      obtain ⟨k, hk, rfl, HR, HXX, HZ, HVx, HB⟩ := hrel
      clear R5 X5 Z5 V5 B5
      by_cases hlt : k < m
      · obtain ⟨b', off, hp, hb', hcell, hcell2, hwt⟩ := (hz.out.2.1.below HB.out).at (k := k) (by omega)
        cases hp
        have HX := Lib.hid (HV.out.2.2.1 (ws.getD k wt0) (getD_mem (by have := HNp.out; omega)))
        have HTK := Lib.hid (show setRows rs (ws.take (k + 1)) = (setRows rs (ws.take k)).set (ws.getD k wt0).pos.toNat (ws.getD k wt0).row by rw [take_snocD ws k wt0 (by have := HNp.out; omega), setRows_snoc])
        obtain ⟨⟨po, ⟨xp, xm, xc, xb⟩⟩, hx⟩ : ∃ y, ws.getD k wt0 = y := ⟨_, rfl⟩
        rw [hx] at hcell hcell2 HX HTK
        dsimp only [Rw.v] at hcell hcell2
        dsimp only at HX HTK
        clear hx hwt
        obtain ⟨j, rfl⟩ : ∃ j : Nat, po = (j : Int) := ⟨po.toNat, by have := HX.out.1.1; omega⟩
        have hj : j < ns := by have := HX.out.1.2; have := HNs.out; omega
        have hxm := HX.out.2
        subst hxm
        have HL := Lib.hid (show (setRows rs (ws.take k)).length = ns by rw [setRows_len, HNs.out])
        have hknp : k < np := by omega
        clear HX
        go_wp2_with fail
        refine wp_region_any (by kernel_rfl) ?_
        change wpAny _ _ _ _ _ _ _ (World.drew _)
        generalize hWD : World.drew _ = W
        have VX := Lib.hid (show Blk W w.heap.size (dskC ps ns cs (some ⟨b', off, none⟩) np cp (m : Int) false) 25 by rw [← hWD]; exact HVx.out)
        have XX := Lib.hid (show Blk W x (dskC (some ⟨g, 0, none⟩) ns c none 0 0 (m : Int) false) 25 by rw [← hWD]; exact HXX.out)
        have ZX := Lib.hid (show Blk W (w.heap.size + 1) #[.slice none 0 0, .slice none 0 0, .int .i64 0, .bool false] 25 by rw [← hWD]; exact HZ.out)
        have RX := Lib.hid (show RowsIn W g (setRows rs (ws.take k)) by rw [← hWD]; exact HR.out)
        have EW := Lib.hid (show Below w.heap.size w W by rw [← hWD]; exact HB.out.drew)
        have hcW : W.cell? ⟨b', off + k * 2, none⟩ = some (.int .i64 (j : Int)) := by rw [← hWD]; exact hcell
        have hcW2 : W.cell? ⟨b', off + k * 2 + 1, none⟩ = some (.slice xp 128 xc) := by rw [← hWD]; exact hcell2
        have hbW : b' < W.heap.size := by rw [← hWD]; exact hb'
        have HC1 := Lib.hid (fun u (hu : Ext W u) => (Below.cell hu (p := ⟨b', off + k * 2, none⟩) hbW).trans hcW)
        have HC2 := Lib.hid (fun u (hu : Ext W u) => (Below.cell hu (p := ⟨b', off + k * 2 + 1, none⟩) hbW).trans hcW2)
        clear hWD hcW hcW2 hcell hcell2 HVx HXX HZ HR HB
        have hCD : ∀ u, Ext W u → Ext W u := fun u hu => hu
        refine region_U (D := Ext W) (Ext W) [14, 15] (Ext.refl W) ?_
        refine anyU_takeD (i := 0) (v := .pointer (some ⟨x, 0, none⟩)) 44 rfl rfl (by kernel_rfl) (by kernel_rfl) (by kernel_rfl) (fun _ _ _ h => h) (by kernel_rfl) (Ext.stable _) hCD (yieldsU_val rfl (fun u hu => by go_simp)) ?_
        refine anyU_takeD (i := 1) (v := .slice (some ⟨g, 0, none⟩) ns c) 45 rfl rfl (by kernel_rfl) (by kernel_rfl) (by kernel_rfl) (fun _ _ _ h => h) (by kernel_rfl) (Ext.stable _) hCD (yieldsU_val rfl (fun u hu => by have c1 := (XX.out.below hu XX.out.lt).cell 0; simp at c1; go_simp)) ?_
        refine anyU_takeD (i := 2) (v := .pointer (some ⟨w.heap.size, 1, none⟩)) 46 rfl rfl (by kernel_rfl) (by kernel_rfl) (by kernel_rfl) (fun _ _ _ h => h) (by kernel_rfl) (Ext.stable _) hCD (yieldsU_val rfl (fun u hu => by go_simp)) ?_
        refine anyU_takeD (i := 3) (v := .slice (some ⟨b', off, none⟩) np cp) 47 rfl rfl (by kernel_rfl) (by kernel_rfl) (by kernel_rfl) (fun _ _ _ h => h) (by kernel_rfl) (Ext.stable _) hCD (yieldsU_val rfl (fun u hu => by have c1 := (VX.out.below hu VX.out.lt).cell 1; simp at c1; go_simp)) ?_
        refine anyU_takeD (i := 4) (v := .int .i64 (k : Int)) 48 rfl rfl (by kernel_rfl) (by kernel_rfl) (by kernel_rfl) (fun _ _ _ h => h) (by kernel_rfl) (Ext.stable _) hCD (yieldsU_val rfl (fun u hu => by go_simp)) ?_
        refine anyU_takeD (i := 5) (v := .pointer (some ⟨b', off + k * 2, none⟩)) 49 rfl rfl (by kernel_rfl) (by kernel_rfl) (by kernel_rfl) (fun _ _ _ h => h) (by kernel_rfl) (Ext.stable _) hCD (yieldsU_val rfl (fun u hu => by go_simp)) ?_
        simp only [Act.put, List.setIfInBounds_toArray, List.set_cons_succ, List.set_cons_zero]
        refine anyU_takeD (i := 6) (v := .pointer (some ⟨b', off + k * 2, none⟩)) 50 rfl rfl (by kernel_rfl) (by kernel_rfl) (by kernel_rfl) (fun _ _ _ h => h) (by kernel_rfl) (Ext.stable _) hCD (yieldsU_val rfl (fun u hu => by go_simp)) ?_
        refine anyU_takeD (i := 7) (v := .int .i64 (j : Int)) 51 rfl rfl (by kernel_rfl) (by kernel_rfl) (by kernel_rfl) (fun _ _ _ h => h) (by kernel_rfl) (Ext.stable _) hCD (yieldsU_val rfl (fun u hu => by have c1 := HC1.out u hu; go_simp)) ?_
        refine anyU_takeD (i := 8) (v := .pointer (some ⟨w.heap.size, 1, none⟩)) 52 rfl rfl (by kernel_rfl) (by kernel_rfl) (by kernel_rfl) (fun _ _ _ h => h) (by kernel_rfl) (Ext.stable _) hCD (yieldsU_val rfl (fun u hu => by go_simp)) ?_
        refine anyU_takeD (i := 9) (v := .slice (some ⟨b', off, none⟩) np cp) 53 rfl rfl (by kernel_rfl) (by kernel_rfl) (by kernel_rfl) (fun _ _ _ h => h) (by kernel_rfl) (Ext.stable _) hCD (yieldsU_val rfl (fun u hu => by have c1 := (VX.out.below hu VX.out.lt).cell 1; simp at c1; go_simp)) ?_
        refine anyU_takeD (i := 10) (v := .int .i64 (k : Int)) 54 rfl rfl (by kernel_rfl) (by kernel_rfl) (by kernel_rfl) (fun _ _ _ h => h) (by kernel_rfl) (Ext.stable _) hCD (yieldsU_val rfl (fun u hu => by go_simp)) ?_
        refine anyU_takeD (i := 11) (v := .pointer (some ⟨b', off + k * 2, none⟩)) 55 rfl rfl (by kernel_rfl) (by kernel_rfl) (by kernel_rfl) (fun _ _ _ h => h) (by kernel_rfl) (Ext.stable _) hCD (yieldsU_val rfl (fun u hu => by go_simp)) ?_
        simp only [Act.put, List.setIfInBounds_toArray, List.set_cons_succ, List.set_cons_zero]
        refine anyU_takeD (i := 12) (v := .pointer (some ⟨b', off + k * 2 + 1, none⟩)) 56 rfl rfl (by kernel_rfl) (by kernel_rfl) (by kernel_rfl) (fun _ _ _ h => h) (by kernel_rfl) (Ext.stable _) hCD (yieldsU_val rfl (fun u hu => by go_simp)) ?_
        refine anyU_takeD (i := 13) (v := .slice xp 128 xc) 57 rfl rfl (by kernel_rfl) (by kernel_rfl) (by kernel_rfl) (fun _ _ _ h => h) (by kernel_rfl) (Ext.stable _) hCD (yieldsU_val rfl (fun u hu => by have c1 := HC2.out u hu; go_simp)) ?_
        simp only [Act.put, List.setIfInBounds_toArray, List.set_cons_succ, List.set_cons_zero]
        refine anyU_tail 14 [15] rfl rfl (by decide) (by kernel_rfl) ?_
        intro u2 hu2
        simp only [Act.put, List.filterMap_cons, List.filterMap_nil, List.getElem?_cons_succ, List.getElem?_cons_zero]
        have R2 := Lib.hid (RX.out.below hu2 RX.out.1)
        have X2 := Lib.hid (XX.out.below hu2 XX.out.lt)
        have Z2 := Lib.hid (ZX.out.below hu2 ZX.out.lt)
        have V2 := Lib.hid (VX.out.below hu2 VX.out.lt)
        have B2 := Lib.hid (EW.out.trans (Below.mono hu2 EW.out.size))
        clear hu2
        obtain ⟨rc1, rc2⟩ := R2.out.2 j (by rw [HL.out]; exact hj)
        dsimp only [Rw.v] at rc1
        have rlt := R2.out.1
        go_wp2_with fail
        refine ⟨⟨k + 1, by omega, by go_num, Lib.hid ?_, Lib.hid ?_, Lib.hid ?_, Lib.hid ?_, Lib.hid ?_⟩, ?_⟩
        · rw [HTK.out]
          exact R2.out.set (k := j) (r := ⟨xp, 128, xc, xb⟩) (by rw [HL.out]; exact hj)
        · exact X2.out.other _ _ (by omega)
        · exact Z2.out.other _ _ (by omega)
        · exact V2.out.other _ _ (by omega)
        · exact B2.out.setCell (p := ⟨g, j, none⟩) (by show w.heap.size ≤ g; omega) _
        · simp only [intOf]; omega
      · obtain rfl : k = m := by omega
        obtain ⟨b', off, hp, hb', hcell, hcell2, hwt⟩ := (hz.out.2.1.below HB.out).at (k := k) (by omega)
        cases hp
        have HX := Lib.hid (HV.out.2.2.1 (ws.getD k wt0) (getD_mem (by have := HNp.out; omega)))
        have HSB := Lib.hid (show synB (rs.map (·.bs)) ws (k : Int) = (setB (rs.map (·.bs)) (ws.take k)).set (ws.getD k wt0).pos.toNat (tornB ((setB (rs.map (·.bs)) (ws.take k)).getD (ws.getD k wt0).pos.toNat []) (ws.getD k wt0).row.bs) by
          unfold synB
          rw [if_pos (by unfold stopB; have := HNp.out; simp; omega)]
          rfl)
        obtain ⟨⟨po, ⟨xp, xm, xc, xb⟩⟩, hx⟩ : ∃ y, ws.getD k wt0 = y := ⟨_, rfl⟩
        rw [hx] at hcell hcell2 HX HSB hwt
        dsimp only [Rw.v] at hcell hcell2
        dsimp only at HX HSB
        clear hx
        obtain ⟨j, rfl⟩ : ∃ j : Nat, po = (j : Int) := ⟨po.toNat, by have := HX.out.1.1; omega⟩
        have hj : j < ns := by have := HX.out.1.2; have := HNs.out; omega
        have hxm := HX.out.2
        subst hxm
        have HW0 := Lib.hid (show ∀ r ∈ setRows rs (ws.take k), RwOk w r ∧ r.m = 128 from setRows_all (q := fun r => RwOk w r ∧ r.m = 128) (ws.take k) rs (fun r hr => ⟨hz.out.1.2.2.1 r hr, HV.out.2.1 r hr⟩) (fun x hx => ⟨(hz.out.2.1.2.2.1 x (List.mem_of_mem_take hx)).2, (HV.out.2.2.1 x (List.mem_of_mem_take hx)).2⟩))
        have HSM := Lib.hid (setRows_map (ws.take k) rs)
        have HSP := Lib.hid (show ∀ b, (∀ r ∈ rs, SepR r b) → (∀ x ∈ ws, SepR x.row b) → ∀ r ∈ setRows rs (ws.take k), SepR r b from fun b q1 q2 => setRows_all (q := fun r => SepR r b) (ws.take k) rs q1 (fun x hx => q2 x (List.mem_of_mem_take hx)))
        obtain ⟨RS, hRS⟩ : ∃ l, setRows rs (ws.take k) = l := ⟨_, rfl⟩
        have HL := Lib.hid (show RS.length = ns by rw [← hRS, setRows_len, HNs.out])
        rw [hRS] at HR HW0 HSM HSP
        clear hRS
        obtain ⟨rc1, rc2⟩ := HR.out.2 j (by rw [HL.out]; exact hj)
        have HO := Lib.hid (HW0.out (RS.getD j rw0) (getD_mem (by rw [HL.out]; exact hj)))
        have HOB := Lib.hid (show (RS.map (·.bs)).getD j [] = (RS.getD j rw0).bs by
          have h : j < RS.length := by rw [HL.out]; exact hj
          simp [h])
        obtain ⟨⟨op, om, oc, ob⟩, hy⟩ : ∃ y, RS.getD j rw0 = y := ⟨_, rfl⟩
        rw [hy] at rc1 HO HOB
        have HY := Lib.hid hy
        clear hy
        have HOR := Lib.hid HO.out.1.2.1
        have HDR := Lib.hid hwt.2.2.1
        dsimp only at HOR HDR HOB
        dsimp only [Rw.v] at rc1
        have hom := HO.out.2
        dsimp only at hom
        subst hom
        obtain ⟨bo, oo, hop, hbo, hO1, hO2, hO3, hO4⟩ := row128 (HO.out.1.below HB.out) rfl
        obtain ⟨bd, od, hxp, hbd, hD1, hD2, hD3, hD4⟩ := row128 hwt.2 rfl
        dsimp only at hop hxp hO1 hO2 hO3 hO4 hD1 hD2 hD3 hD4
        subst hop hxp
        have HO1 := Lib.hid hO1; have HO2 := Lib.hid hO2; have HD1 := Lib.hid hD1; have HD2 := Lib.hid hD2
        have rlt := HR.out.1
        have hwlt : w.heap.size + 1 < wr.heap.size := HZ.out.lt
        have hxlt : x < wr.heap.size := HXX.out.lt
        clear hO1 hO2 hD1 hD2 HX hwt HO
        obtain ⟨v0, v1, v2, v3, lv⟩ := blk4_facts HVx.out
        go_upto_region 14 with fail
        refine wp_region_any (by kernel_rfl) ?_
        change wpAny _ _ _ _ _ _ _ (World.drew _)
        have TX0 := Blk.new wr #[.int .i64 (j : Int), .slice (some ⟨bd, od, none⟩) 128 xc] 54
        have ZX0 := HZ.out.alloc (.cells #[.int .i64 (j : Int), .slice (some ⟨bd, od, none⟩) 128 xc] 54)
        have XX0 := HXX.out.alloc (.cells #[.int .i64 (j : Int), .slice (some ⟨bd, od, none⟩) 128 xc] 54)
        have RX0 := HR.out.below (bel_alloc1 wr (.cells #[.int .i64 (j : Int), .slice (some ⟨bd, od, none⟩) 128 xc] 54)) rlt
        have EX0 := bel_alloc1 wr (.cells #[.int .i64 (j : Int), .slice (some ⟨bd, od, none⟩) 128 xc] 54)
        generalize hWD : World.drew _ = W
        have TX := Lib.hid (show Blk W wr.heap.size #[.int .i64 (j : Int), .slice (some ⟨bd, od, none⟩) 128 xc] 54 by rw [← hWD]; exact TX0)
        have ZX := Lib.hid (show Blk W (w.heap.size + 1) #[.slice none 0 0, .slice none 0 0, .int .i64 0, .bool false] 25 by rw [← hWD]; exact ZX0)
        have XX := Lib.hid (show Blk W x (dskC (some ⟨g, 0, none⟩) ns c none 0 0 (k : Int) false) 25 by rw [← hWD]; exact XX0)
        have RX := Lib.hid (show RowsIn W g RS by rw [← hWD]; exact RX0)
        have EX := Lib.hid (show Below wr.heap.size wr W by rw [← hWD]; exact EX0.drew)
        have sW2 : wr.heap.size < W.heap.size := TX.out.lt
        clear hWD TX0 ZX0 XX0 RX0 EX0 v0 v1 v2 v3 lv hcell hcell2 rc1 rc2
        have hCD : ∀ u, Ext W u → Ext W u := fun u hu => hu
        have HRC := Lib.hid (fun u (hu : Ext W u) => show u.cell? ⟨g, j, none⟩ = some (.slice (some ⟨bo, oo, none⟩) 128 oc) from by
          have := ((RX.out.below hu (by omega)).2 j (by rw [HL.out]; exact hj)).1
          rw [this, HY.out])
        have HDD := Lib.hid (show BytesAt wr bd od (xb.take 64) from HD1.out.take 64)
        have HOO := Lib.hid (show BytesAt wr bo (oo + 64) (ob.drop 64) from HO1.out.drop 64)
        have lD := Lib.hid (show (xb.take 64).length = 64 by rw [List.length_take, HD2.out]; rfl)
        have lO := Lib.hid (show (ob.drop 64).length = 64 by rw [List.length_drop, HO2.out])
        have hne : ¬ oc = 64 := by omega
        have hx64 : (64 : Int) ≤ (xc : Int) := by omega
        have hx64' : ¬ (xc : Int) < 64 := by omega
        have ho64 : (64 : Int) ≤ (oc : Int) := by omega
        refine region_U (D := Ext W) (fun y => Ext W y ∧ (fun _ => True) y) [17, 18] ⟨Ext.refl W, trivial⟩ ?_
        refine anyU_takeD (i := 0) (v := .pointer (some ⟨x, 0, none⟩)) 65 rfl rfl (by kernel_rfl) (by kernel_rfl) (by kernel_rfl) (fun _ _ _ h => h) (by kernel_rfl) ((Ext.stable W).and tr_st) (fun y hy => hy.1) (yieldsU_val rfl (fun u hu => by go_simp)) ?_
        refine anyU_takeD (i := 1) (v := .slice (some ⟨g, 0, none⟩) ns c) 66 rfl rfl (by kernel_rfl) (by kernel_rfl) (by kernel_rfl) (fun _ _ _ h => h) (by kernel_rfl) ((Ext.stable W).and tr_st) (fun y hy => hy.1) (yieldsU_val rfl (fun u hu => by have c1 := (XX.out.below hu XX.out.lt).cell 0; simp at c1; go_simp)) ?_
        refine anyU_takeD (i := 2) (v := .pointer (some ⟨wr.heap.size, 0, none⟩)) 67 rfl rfl (by kernel_rfl) (by kernel_rfl) (by kernel_rfl) (fun _ _ _ h => h) (by kernel_rfl) ((Ext.stable W).and tr_st) (fun y hy => hy.1) (yieldsU_val rfl (fun u hu => by go_simp)) ?_
        refine anyU_takeD (i := 3) (v := .int .i64 (j : Int)) 68 rfl rfl (by kernel_rfl) (by kernel_rfl) (by kernel_rfl) (fun _ _ _ h => h) (by kernel_rfl) ((Ext.stable W).and tr_st) (fun y hy => hy.1) (yieldsU_val rfl (fun u hu => by have c1 := (TX.out.below hu TX.out.lt).cell 0; simp at c1; go_simp)) ?_
        refine anyU_takeD (i := 5) (v := .pointer (some ⟨wr.heap.size, 1, none⟩)) 70 rfl rfl (by kernel_rfl) (by kernel_rfl) (by kernel_rfl) (fun _ _ _ h => h) (by kernel_rfl) ((Ext.stable W).and tr_st) (fun y hy => hy.1) (yieldsU_val rfl (fun u hu => by go_simp)) ?_
        refine anyU_takeD (i := 6) (v := .slice (some ⟨bd, od, none⟩) 128 xc) 71 rfl rfl (by kernel_rfl) (by kernel_rfl) (by kernel_rfl) (fun _ _ _ h => h) (by kernel_rfl) ((Ext.stable W).and tr_st) (fun y hy => hy.1) (yieldsU_val rfl (fun u hu => by have c1 := (TX.out.below hu TX.out.lt).cell 1; simp at c1; go_simp)) ?_
        simp only [Act.put, List.setIfInBounds_toArray, List.set_cons_succ, List.set_cons_zero]
        refine anyU_takeD (i := 7) (v := .slice (some ⟨bd, od, none⟩) 64 xc) 72 rfl rfl (by kernel_rfl) (by kernel_rfl) (by kernel_rfl) (fun _ _ _ h => h) (by kernel_rfl) ((Ext.stable W).and tr_st) (fun y hy => hy.1) (yieldsU_val rfl (fun u hu => by go_simp)) ?_
        refine anyU_takeD (i := 9) (v := .pointer (some ⟨x, 0, none⟩)) 74 rfl rfl (by kernel_rfl) (by kernel_rfl) (by kernel_rfl) (fun _ _ _ h => h) (by kernel_rfl) ((Ext.stable W).and tr_st) (fun y hy => hy.1) (yieldsU_val rfl (fun u hu => by go_simp)) ?_
        refine anyU_takeD (i := 10) (v := .slice (some ⟨g, 0, none⟩) ns c) 75 rfl rfl (by kernel_rfl) (by kernel_rfl) (by kernel_rfl) (fun _ _ _ h => h) (by kernel_rfl) ((Ext.stable W).and tr_st) (fun y hy => hy.1) (yieldsU_val rfl (fun u hu => by have c1 := (XX.out.below hu XX.out.lt).cell 0; simp at c1; go_simp)) ?_
        refine anyU_takeD (i := 11) (v := .pointer (some ⟨wr.heap.size, 0, none⟩)) 76 rfl rfl (by kernel_rfl) (by kernel_rfl) (by kernel_rfl) (fun _ _ _ h => h) (by kernel_rfl) ((Ext.stable W).and tr_st) (fun y hy => hy.1) (yieldsU_val rfl (fun u hu => by go_simp)) ?_
        refine anyU_takeD (i := 12) (v := .int .i64 (j : Int)) 77 rfl rfl (by kernel_rfl) (by kernel_rfl) (by kernel_rfl) (fun _ _ _ h => h) (by kernel_rfl) ((Ext.stable W).and tr_st) (fun y hy => hy.1) (yieldsU_val rfl (fun u hu => by have c1 := (TX.out.below hu TX.out.lt).cell 0; simp at c1; go_simp)) ?_
        refine anyU_takeD (i := 13) (v := .pointer (some ⟨g, j, none⟩)) 78 rfl rfl (by kernel_rfl) (by kernel_rfl) (by kernel_rfl) (fun _ _ _ h => h) (by kernel_rfl) ((Ext.stable W).and tr_st) (fun y hy => hy.1) (yieldsU_val rfl (fun u hu => by go_simp)) ?_
        simp only [Act.put, List.setIfInBounds_toArray, List.set_cons_succ, List.set_cons_zero]
        refine anyU_takeD (i := 14) (v := .slice (some ⟨bo, oo, none⟩) 128 oc) 79 rfl rfl (by kernel_rfl) (by kernel_rfl) (by kernel_rfl) (fun _ _ _ h => h) (by kernel_rfl) ((Ext.stable W).and tr_st) (fun y hy => hy.1) (yieldsU_val rfl (fun u hu => by have c1 := HRC.out u hu; go_simp)) ?_
        refine anyU_takeD (i := 15) (v := .slice (some ⟨bo, oo + 64, none⟩) 64 (oc - 64)) 80 rfl rfl (by kernel_rfl) (by kernel_rfl) (by kernel_rfl) (fun _ _ _ h => h) (by kernel_rfl) ((Ext.stable W).and tr_st) (fun y hy => hy.1) (yieldsU_val rfl (fun u hu => by go_simp)) ?_
        simp only [Act.put, List.setIfInBounds_toArray, List.set_cons_succ, List.set_cons_zero]
        refine anyU_one 4 4 _ rfl rfl (by kernel_rfl) ?_
        intro u hu
        go_wp2_with fail
        change ∃ C' : World → Prop, _ ∧ _ ∧ _ ∧ anyU _ _ _ _ _ _ 4 _ _ _
        have hb1 : Below u.heap.size u (u.alloc (.cells #[] 5)) := bel_alloc1 u _
        have Y1 := Lib.hid (show Own8 (u.alloc (.cells #[] 5)) W.heap.size (.slice (some ⟨u.heap.size, 0, none⟩) 0 0) [] from World.ownsRow_made u #[] 0 hu.1.size (by unfold maxLen; omega) rfl)
        have E1 := Lib.hid (Ext.trans hu.1 hb1)
        generalize World.alloc u _ = u1 at Y1 E1 hb1 ⊢
        generalize u.heap.size = bq at Y1 ⊢
        clear hu hb1
        refine anchorF (fun y => Ext W y ∧ (fun z => Own8 z W.heap.size (.slice (some ⟨bq, 0, none⟩) 0 0) ([])) y) (fun y hy => hy.1) ((Ext.stable W).and (fun y z h k => own8_below h k)) ⟨E1.out, Y1.out⟩ ?_
        (try simp only [Act.put])
        clear E1 Y1
        refine anyU_one 8 3 _ rfl rfl (by kernel_rfl) ?_
        intro u hu
        refine app8 rfl (.tmp 69) (.tmp 72) rfl W.heap.size (.slice (some ⟨bq, 0, none⟩) 0 0) [] rfl hu.2 (some ⟨bd, od, none⟩) 64 xc (xb.take 64) rfl ⟨lD.out.symm, .inr ⟨bd, od, rfl, by have := Below.size hu.1; omega, HDD.out.below (EX.out.trans (Below.mono hu.1 (by omega))) hbd⟩⟩ (by rw [lD.out]; simp) (Below.size hu.1) ?_
        intro v3 u1 o3 g3
        have E1 := Lib.hid (show Ext W u1 from bel_grown8 hu.1 hu.2 g3 (Below.size hu.1))
        have Y0 : Own8 u1 W.heap.size v3 (xb.take 64) := o3
        clear g3 hu o3
        obtain ⟨q1, cq1, hv3, _, _, _, _⟩ := own8_at Y0 (by rw [lD.out]; omega)
        rw [lD.out] at hv3
        subst hv3
        have Y1 := Lib.hid Y0
        clear Y0
        go_wp2_with fail
        change ∃ C' : World → Prop, _ ∧ _ ∧ _ ∧ anyU _ _ _ _ _ _ 3 _ _ _
        refine anchorF (fun y => Ext W y ∧ (fun z => Own8 z W.heap.size (.slice (some ⟨q1, 0, none⟩) 64 cq1) (xb.take 64)) y) (fun y hy => hy.1) ((Ext.stable W).and (fun y z h k => own8_below h k)) ⟨E1.out, Y1.out⟩ ?_
        (try simp only [Act.put])
        clear E1 Y1
        refine anyU_one 16 2 _ rfl rfl (by kernel_rfl) ?_
        intro u hu
        refine app8 rfl (.tmp 73) (.tmp 80) rfl W.heap.size (.slice (some ⟨q1, 0, none⟩) 64 cq1) (xb.take 64) rfl hu.2 (some ⟨bo, oo + 64, none⟩) 64 (oc - 64) (ob.drop 64) rfl ⟨lO.out.symm, .inr ⟨bo, oo + 64, rfl, by have := Below.size hu.1; omega, HOO.out.below (EX.out.trans (Below.mono hu.1 (by omega))) hbo⟩⟩ (by rw [lD.out, lO.out]; omega) (Below.size hu.1) ?_
        intro v3 u1 o3 g3
        have E1 := Lib.hid (show Ext W u1 from bel_grown8 hu.1 hu.2 g3 (Below.size hu.1))
        have Y0 : Own8 u1 W.heap.size v3 (tornB ob xb) := o3
        clear g3 hu o3
        have lT : (tornB ob xb).length = 128 := by unfold tornB; rw [List.length_append, lD.out, lO.out]
        obtain ⟨q2, cq2, hv3, _, _, _, _⟩ := own8_at Y0 (by rw [lT]; omega)
        rw [lT] at hv3
        subst hv3
        have Y1 := Lib.hid Y0
        clear Y0
        go_wp2_with fail
        change ∃ C' : World → Prop, _ ∧ _ ∧ _ ∧ anyU _ _ _ _ _ _ 2 _ _ _
        refine anchorF (fun y => Ext W y ∧ (fun z => Own8 z W.heap.size (.slice (some ⟨q2, 0, none⟩) 128 cq2) (tornB ob xb)) y) (fun y hy => hy.1) ((Ext.stable W).and (fun y z h k => own8_below h k)) ⟨E1.out, Y1.out⟩ ?_
        (try simp only [Act.put])
        clear E1 Y1
        refine anyU_tail 17 [18] rfl rfl (by decide) (by kernel_rfl) ?_
        intro u2 hu2
        simp only [Act.put, List.filterMap_cons, List.filterMap_nil, List.getElem?_cons_succ, List.getElem?_cons_zero]
        have Z2 := Lib.hid (ZX.out.below hu2.1 ZX.out.lt)
        have X2 := Lib.hid (XX.out.below hu2.1 XX.out.lt)
        have R2 := Lib.hid (RX.out.below hu2.1 (by omega))
        have K2 := Lib.hid (show Below wr.heap.size wr u2 from EX.out.trans (Below.mono hu2.1 (by omega)))
        have B2 := Lib.hid (HB.out.trans (K2.out.mono HB.out.size))
        obtain ⟨q3, cq3, hq3, T1, T2, T3, T4, T5⟩ := own8_at hu2.2 (by rw [lT]; omega)
        rw [lT] at hq3 T4
        simp at hq3
        obtain ⟨rfl, rfl⟩ := hq3
        have Y2 := Lib.hid T1
        have rc1 := HRC.out u2 hu2.1
        have rc2 := (R2.out.2 j (by rw [HL.out]; exact hj)).2
        clear hu2 T1
        obtain ⟨c0, c1, c2, c3, lb⟩ := blk4_facts X2.out
        obtain ⟨d0, d1, d2, d3, ld⟩ := blk4_facts Z2.out
        have f0 := Z2.out.frozen 0; have f1 := Z2.out.frozen 1; have f2 := Z2.out.frozen 2; have f3 := Z2.out.frozen 3
        have q2f := X2.out.frozen 2; have q3f := X2.out.frozen 3
        have rl2 := R2.out.1
        have ZF := (((((((Z2.out.other (b' := g) j (.slice (some ⟨q2, 0, none⟩) 128 cq2) (by omega)).other (b' := x) 2 (.int .i64 0) (by omega)).other (b' := x) 3 (.bool true) (by omega)).set 0 (.slice (some ⟨g, 0, none⟩) ns c)).set 1 (.slice none 0 0)).set 2 (.int .i64 0)).set 3 (.bool true))
        have RF := (((((((R2.out.set (k := j) (r := ⟨some ⟨q2, 0, none⟩, 128, cq2, tornB ob xb⟩) (by rw [HL.out]; exact hj)).other (b' := x) (o := 2) (v := (.int .i64 0)) (by omega)).other (b' := x) (o := 3) (v := (.bool true)) (by omega)).other (b' := w.heap.size + 1) (o := 0) (v := (.slice (some ⟨g, 0, none⟩) ns c)) (by omega)).other (b' := w.heap.size + 1) (o := 1) (v := (.slice none 0 0)) (by omega)).other (b' := w.heap.size + 1) (o := 2) (v := (.int .i64 0)) (by omega)).other (b' := w.heap.size + 1) (o := 3) (v := (.bool true)) (by omega))
        have BF := (((((((B2.out.setCell (p := ⟨g, j, none⟩) (by show w.heap.size ≤ g; omega) (.slice (some ⟨q2, 0, none⟩) 128 cq2)).setCell (p := ⟨x, 2, none⟩) (by show w.heap.size ≤ x; omega) (.int .i64 0)).setCell (p := ⟨x, 3, none⟩) (by show w.heap.size ≤ x; omega) (.bool true)).setCell (p := ⟨w.heap.size + 1, 0, none⟩) (by show w.heap.size ≤ w.heap.size + 1; omega) (.slice (some ⟨g, 0, none⟩) ns c)).setCell (p := ⟨w.heap.size + 1, 1, none⟩) (by show w.heap.size ≤ w.heap.size + 1; omega) (.slice none 0 0)).setCell (p := ⟨w.heap.size + 1, 2, none⟩) (by show w.heap.size ≤ w.heap.size + 1; omega) (.int .i64 0)).setCell (p := ⟨w.heap.size + 1, 3, none⟩) (by show w.heap.size ≤ w.heap.size + 1; omega) (.bool true))
        have YF := (((((((Y2.out.set (b' := g) (o' := j) (v := (.slice (some ⟨q2, 0, none⟩) 128 cq2)) (by omega)).set (b' := x) (o' := 2) (v := (.int .i64 0)) (by omega)).set (b' := x) (o' := 3) (v := (.bool true)) (by omega)).set (b' := w.heap.size + 1) (o' := 0) (v := (.slice (some ⟨g, 0, none⟩) ns c)) (by omega)).set (b' := w.heap.size + 1) (o' := 1) (v := (.slice none 0 0)) (by omega)).set (b' := w.heap.size + 1) (o' := 2) (v := (.int .i64 0)) (by omega)).set (b' := w.heap.size + 1) (o' := 3) (v := (.bool true)) (by omega))
        have SF : q2 < (((((((u2.setCell ⟨g, j, none⟩ (.slice (some ⟨q2, 0, none⟩) 128 cq2)).setCell ⟨x, 2, none⟩ (.int .i64 0)).setCell ⟨x, 3, none⟩ (.bool true)).setCell ⟨w.heap.size + 1, 0, none⟩ (.slice (some ⟨g, 0, none⟩) ns c)).setCell ⟨w.heap.size + 1, 1, none⟩ (.slice none 0 0)).setCell ⟨w.heap.size + 1, 2, none⟩ (.int .i64 0)).setCell ⟨w.heap.size + 1, 3, none⟩ (.bool true)).heap.size := by simp only [World.size_setCell]; exact T3
        go_wp2_with fail
        generalize (((((((u2.setCell ⟨g, j, none⟩ (.slice (some ⟨q2, 0, none⟩) 128 cq2)).setCell ⟨x, 2, none⟩ (.int .i64 0)).setCell ⟨x, 3, none⟩ (.bool true)).setCell ⟨w.heap.size + 1, 0, none⟩ (.slice (some ⟨g, 0, none⟩) ns c)).setCell ⟨w.heap.size + 1, 1, none⟩ (.slice none 0 0)).setCell ⟨w.heap.size + 1, 2, none⟩ (.int .i64 0)).setCell ⟨w.heap.size + 1, 3, none⟩ (.bool true)) = W9 at ZF RF BF YF SF ⊢
        have ZF' : Blk W9 (w.heap.size + 1) (dskC (some ⟨g, 0, none⟩) ns c none 0 0 0 true) 25 := ZF
        clear ZF c0 c1 c2 c3 lb d0 d1 d2 d3 ld f0 f1 f2 f3 rc1 rc2
        obtain ⟨e0, e1, e2, e3, le⟩ := blk4_facts ZF'
        refine bodyPost_ret (v := .tuple #[.agg (dskC (some ⟨g, 0, none⟩) ns c none 0 0 0 true), .int .i64 40]) ?_ rfl ⟨?_, BF⟩
        · rw [results_cell_tmp rfl]; go_simp
        · have hs : stopB (k : Int) ws.length = true := by unfold stopB; have := HNp.out; simp; omega
          refine isSyn (rows := RS.set j ⟨some ⟨q2, 0, none⟩, 128, cq2, tornB ob xb⟩) RF (by rw [List.length_set, HL.out]) hns.1 hcc hcc2 (fun r hr => ?_) (fun r hr => ?_) ?_ (by unfold synL; rw [hs]; rfl) hs (by rw [hs]; rfl) (by omega) (fun b hb z1 z2 r hr => ?_)
          · rcases List.mem_or_eq_of_mem_set hr with h | h
            · exact (HW0.out r h).1.below BF
            · rw [h]; exact torn_ok2 YF SF HO2.out HD2.out HOR.out HDR.out T4 T5
          · rcases List.mem_or_eq_of_mem_set hr with h | h
            · exact (HW0.out r h).2
            · rw [h]
          · rw [List.map_set, HSB.out, ← HSM.out, Int.toNat_natCast, HOB.out]
          · rcases List.mem_or_eq_of_mem_set hr with h | h
            · exact HSP.out b z1 z2 r h
            · rw [h]; exact .inr fun a ha => by cases ha; show q2 ≠ b; omega
end Go.Proofs.Ytackklbifppfeaa
