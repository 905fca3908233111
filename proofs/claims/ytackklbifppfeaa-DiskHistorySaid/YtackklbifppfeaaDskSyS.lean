/- disk.Sync, where it stops. -/
import Derived.Test.YtackklbifppfeaaDskSyn
namespace Go.Proofs.Ytackklbifppfeaa
open Go.RowKit
set_option linter.unusedVariables false
set_option linter.unusedSimpArgs false

theorem torn_ok {w : World} {b : Nat} {t : TypeId} {ob xb : List Int} (h : Blk w b (bv (xb.take 64 ++ ob.drop 64)).toArray t) (ho : ob.length = 128) (hx : xb.length = 128) (h1 : ∀ z ∈ ob, 0 ≤ z ∧ z ≤ 255) (h2 : ∀ z ∈ xb, 0 ≤ z ∧ z ≤ 255) : RwOk w ⟨some ⟨b, 0, none⟩, 128, 128, tornB ob xb⟩ := by
  have hl : (tornB ob xb).length = 128 := by unfold tornB; rw [List.length_append, List.length_take, List.length_drop]; omega
  refine ⟨.inl ⟨hl.symm, .inr ⟨b, 0, rfl, h.lt, blk_bytes h⟩⟩, fun z hz => ?_, by show 128 ≤ _; omega, Nat.le_refl _, by show 128 ≤ _; omega⟩
  rcases List.mem_append.1 hz with h3 | h3
  · exact h2 z (List.mem_of_mem_take h3)
  · exact h1 z (List.mem_of_mem_drop h3)
set_option maxRecDepth 100000 in
set_option maxHeartbeats 4000000 in
theorem sync_stop (m : Nat) (pa : Addr) (ps : Option Addr) (ns cs : Nat) (np cp : Nat) (rs : List Rw) (ws : List Wt) (w : World) (hz : Hid (DskV w ps ns (some pa) np (m : Int) rs ws)) (hq : Hid (runB (m : Int) false rs ws = true)) (hp1 : np ≤ cp) (hp2 : cp ≤ 9223372036854775807) (hm : m < np) :
    Calls Try.prog 23 #[.agg (dskC ps ns cs (some pa) np cp (m : Int) false)] w fun e w' => IsSyn w.heap.size ns rs ws (m : Int) w' e ∧ Below w.heap.size w w' := by
  have V0 := Lib.hid (Blk.new w (dskC ps ns cs (some pa) np cp (m : Int) false) 25)
  have h1 := Lib.hid (bel_alloc1 w (.cells (dskC ps ns cs (some pa) np cp (m : Int) false) 25))
  have VW := Lib.hid (V0.out.alloc (.cells #[.slice none 0 0, .slice none 0 0, .int .i64 0, .bool false] 25))
  have ZW := Lib.hid (Blk.new (w.alloc (.cells (dskC ps ns cs (some pa) np cp (m : Int) false) 25)) #[.slice none 0 0, .slice none 0 0, .int .i64 0, .bool false] 25)
  have h2 := Lib.hid (h1.out.alloc h1.out.size (.cells #[.slice none 0 0, .slice none 0 0, .int .i64 0, .bool false] 25))
  have H0 := Lib.hid (hz.out.below h2.out)
  have m1 := hz.out.1.2.1
  have m2 := hz.out.2.1.2.1
  obtain ⟨N, hN⟩ : ∃ N, (w.alloc (.cells (dskC ps ns cs (some pa) np cp (m : Int) false) 25)).heap.size = N := ⟨_, rfl⟩
  have hNe : N = w.heap.size + 1 := by rw [← hN]; simp
  rw [hN] at ZW
  subst hNe
  clear hN
  have HC := Lib.hid (run_yes hq.out)
  have HNs := Lib.hid hz.out.1.1
  have HNp := Lib.hid hz.out.2.1.1
  have HV := Lib.hid (run_facts hq.out)
  have hns : ns ≤ 4096 ∧ 1 ≤ ns := by have := HV.out.1; have := HNs.out; omega
  have hsz : (Try.prog.info? 35).map (·.size) = some 1 := by kernel_rfl
  have MK := fun u => make_rows ns hns.1 u
  obtain ⟨ZL, hZL⟩ : ∃ Z, List.replicate ns (Value.slice none 0 0) = Z := ⟨_, rfl⟩
  obtain ⟨CS, hCS⟩ : ∃ Z, rs.map Rw.v = Z := ⟨_, rfl⟩
  have lZ := Lib.hid (show ZL.length = ns by rw [← hZL, List.length_replicate])
  have lC := Lib.hid (show CS.length = ns by rw [← hCS, List.length_map, HNs.out])
  have oC := Lib.hid (show ∀ v ∈ CS, v.oneCell' = true by rw [← hCS]; exact rows_one rs)
  have sC := Lib.hid (show ∀ u, SecsV u ps ns rs → 0 < CS.length → ∃ ad, ps = some ad ∧ ∀ j v, CS[j]? = some v → u.cell? (ad.add j) = some v by rw [← hCS]; exact fun u h h0 => secs_src h h0)
  have eC := Lib.hid hCS
  rw [hZL] at MK
  clear hZL hCS
  go_enter Try.func23, Try.ntmps23
  go_wp2_with fail
  refine (running_any ps ns cs (some pa) np cp (m : Int) false rs ws _ H0).mono ?_; rintro e w1 ⟨rfl, hb⟩
  have V1 := Lib.hid (VW.out.below hb VW.out.lt)
  have Z1 := Lib.hid (ZW.out.below hb ZW.out.lt)
  have B1 := Lib.hid (h2.out.trans (hb.mono h2.out.size)); clear hb
  have D1 := Lib.hid (hz.out.below B1.out)
  obtain ⟨c0, c1, c2, c3, lb⟩ := blk4_facts V1.out
  rw [HC.out]
  go_upto_region 4 with fail
  refine wp_region_any (by kernel_rfl) ?_
  change wpAny _ _ _ _ _ _ _ (World.drew _)
  generalize hWD : World.drew _ = W
  have BX := Lib.hid (show Blk W w.heap.size (dskC ps ns cs (some pa) np cp (m : Int) false) 25 by rw [← hWD]; exact V1.out)
  have ZX := Lib.hid (show Blk W (w.heap.size + 1) #[.slice none 0 0, .slice none 0 0, .int .i64 0, .bool false] 25 by rw [← hWD]; exact Z1.out)
  have EW := Lib.hid (show Below w.heap.size w W by rw [← hWD]; exact B1.out.drew)
  have hW : w.heap.size + 1 < W.heap.size := ZX.out.lt
  clear hWD V1 Z1 B1 D1 c0 c1 c2 c3 lb
  have hCD : ∀ u, Ext W u → Ext W u := fun u hu => hu
  refine region_U (D := Ext W) (Ext W) [6, 7] (Ext.refl W) ?_
  refine anyU_takeD (i := 0) (v := .pointer (some ⟨w.heap.size, 0, none⟩)) 14 rfl rfl (by kernel_rfl) (by kernel_rfl) (by kernel_rfl) (fun _ _ _ h => h) (by kernel_rfl) (Ext.stable _) hCD (yieldsU_val rfl (fun u hu => by go_simp)) ?_
  refine anyU_takeD (i := 1) (v := .slice ps ns cs) 15 rfl rfl (by kernel_rfl) (by kernel_rfl) (by kernel_rfl) (fun _ _ _ h => h) (by kernel_rfl) (Ext.stable _) hCD (yieldsU_val rfl (fun u hu => by have c := (BX.out.below hu BX.out.lt).cell 0; go_simp)) ?_
  refine anyU_takeD (i := 2) (v := .int .i64 (ns : Int)) 16 rfl rfl (by kernel_rfl) (by kernel_rfl) (by kernel_rfl) (fun _ _ _ h => h) (by kernel_rfl) (Ext.stable _) hCD (yieldsU_val rfl (fun u hu => by go_simp)) ?_
  refine anyU_takeD (i := 4) (v := .pointer (some ⟨w.heap.size, 2, none⟩)) 18 rfl rfl (by kernel_rfl) (by kernel_rfl) (by kernel_rfl) (fun _ _ _ h => h) (by kernel_rfl) (Ext.stable _) hCD (yieldsU_val rfl (fun u hu => by go_simp)) ?_
  refine anyU_takeD (i := 5) (v := .int .i64 (m : Int)) 19 rfl rfl (by kernel_rfl) (by kernel_rfl) (by kernel_rfl) (fun _ _ _ h => h) (by kernel_rfl) (Ext.stable _) hCD (yieldsU_val rfl (fun u hu => by have c := (BX.out.below hu BX.out.lt).cell 2; simp at c; go_simp)) ?_
  simp only [Act.put, List.setIfInBounds_toArray, List.set_cons_succ, List.set_cons_zero]
  refine anyU_one 3 2 _ rfl rfl (by kernel_rfl) ?_
  intro u hu
  have MK1 := MK u
  go_wp2_with fail
  change ∃ C' : World → Prop, _ ∧ _ ∧ _ ∧ anyU _ _ _ _ _ _ 2 _ _ _
  have hb1 : Below u.heap.size u (u.alloc (.cells ZL.toArray 35)) := bel_alloc1 u _
  have Y1 := Lib.hid (Blk.new u ZL.toArray 35)
  have E1 := Lib.hid (Ext.trans hu hb1)
  clear MK1
  generalize World.alloc u _ = u1 at Y1 E1 hb1 ⊢
  have lt1 : w.heap.size + 1 < u.heap.size := Nat.lt_of_lt_of_le hW hu.size
  generalize u.heap.size = bb at Y1 lt1 ⊢
  clear hu hb1
  refine anchorF (fun y => Ext W y ∧ Blk y bb ZL.toArray 35) (fun y hy => hy.1) ((Ext.stable W).and (fun y z h k => h.below k h.lt)) ⟨E1.out, Y1.out⟩ ?_
  (try simp only [Act.put])
  clear E1 Y1
  refine anyU_tail 6 [7] rfl rfl (by decide) (by kernel_rfl) ?_
  intro u2 hu2
  simp only [Act.put, List.filterMap_cons, List.filterMap_nil, List.getElem?_cons_succ, List.getElem?_cons_zero]
  have V2 := Lib.hid (BX.out.below hu2.1 BX.out.lt)
  have Z2 := Lib.hid (ZX.out.below hu2.1 ZX.out.lt)
  have B2 := Lib.hid (EW.out.trans (Below.mono hu2.1 EW.out.size))
  have R2 := Lib.hid hu2.2
  clear hu2 BX ZX EW
  obtain ⟨d0, d1, d2, d3, ld⟩ := blk4_facts Z2.out
  have f0 := Z2.out.frozen 0; have f1 := Z2.out.frozen 1; have f2 := Z2.out.frozen 2; have f3 := Z2.out.frozen 3
  go_upto_region 5 with fail
  have Z3' := ((((Z2.out.set 0 (.slice (some ⟨bb, 0, none⟩) ns ns)).set 1 (.slice none 0 0)).set 2 (.int .i64 (m : Int))).set 3 (.bool false))
  have V3' := ((((V2.out.other (b' := w.heap.size + 1) 0 (.slice (some ⟨bb, 0, none⟩) ns ns) (by omega)).other (b' := w.heap.size + 1) 1 (.slice none 0 0) (by omega)).other (b' := w.heap.size + 1) 2 (.int .i64 (m : Int)) (by omega)).other (b' := w.heap.size + 1) 3 (.bool false) (by omega))
  have R3' := ((((R2.out.other (b' := w.heap.size + 1) 0 (.slice (some ⟨bb, 0, none⟩) ns ns) (by omega)).other (b' := w.heap.size + 1) 1 (.slice none 0 0) (by omega)).other (b' := w.heap.size + 1) 2 (.int .i64 (m : Int)) (by omega)).other (b' := w.heap.size + 1) 3 (.bool false) (by omega))
  have B3' := ((((B2.out.setCell (p := ⟨w.heap.size + 1, 0, none⟩) (by show w.heap.size ≤ w.heap.size + 1; omega) (.slice (some ⟨bb, 0, none⟩) ns ns)).setCell (p := ⟨w.heap.size + 1, 1, none⟩) (by show w.heap.size ≤ w.heap.size + 1; omega) (.slice none 0 0)).setCell (p := ⟨w.heap.size + 1, 2, none⟩) (by show w.heap.size ≤ w.heap.size + 1; omega) (.int .i64 (m : Int))).setCell (p := ⟨w.heap.size + 1, 3, none⟩) (by show w.heap.size ≤ w.heap.size + 1; omega) (.bool false))
  generalize (((u2.setCell ⟨w.heap.size + 1, 0, none⟩ (.slice (some ⟨bb, 0, none⟩) ns ns)).setCell ⟨w.heap.size + 1, 1, none⟩ (.slice none 0 0)).setCell ⟨w.heap.size + 1, 2, none⟩ (.int .i64 (m : Int))).setCell ⟨w.heap.size + 1, 3, none⟩ (.bool false) = u3 at Z3' V3' R3' B3' ⊢
  have Z3 := Lib.hid (show Blk u3 (w.heap.size + 1) (dskC (some ⟨bb, 0, none⟩) ns ns none 0 0 (m : Int) false) 25 from Z3')
  have V3 := Lib.hid V3'
  have R3 := Lib.hid R3'
  have B3 := Lib.hid B3'
  clear Z3' V3' R3' B3' V2 Z2 R2 B2 d0 d1 d2 d3 ld f0 f1 f2 f3
  obtain ⟨c0, c1, c2, c3, lb⟩ := blk4_facts V3.out
  obtain ⟨d0, d1, d2, d3, ld⟩ := blk4_facts Z3.out
  have D3 := Lib.hid (hz.out.1.below B3.out)
  go_wp2_with (refine wpList_copy_splice rfl (.tmp 22) (.tmp 24) 22 22 rfl 35 Try.underlying22 hsz (some ⟨bb, 0, none⟩) ps ns ns ns cs rfl rfl bb 0 ZL 35 ?c1 CS ?c2 ?c3 ?c4 ?c5 bb u3 ?c6 (Nat.le_refl _) ?_)
  case c1 => exact R3.out
  case c2 => rw [lC.out]; show ns = min ns ns; omega
  case c3 => exact fun h0 => (sC.out _ D3.out h0)
  case c4 => rw [lC.out, lZ.out]; omega
  case c5 => exact oC.out
  case c6 => exact Below.refl _ _
  intro w4 H4 hb4
  rw [splice_all _ _ (by rw [lC.out, lZ.out]), ← eC.out] at H4
  have V4 := Lib.hid (V3.out.below hb4 (by omega))
  have Z4 := Lib.hid (Z3.out.below hb4 (by omega))
  have R4 := Lib.hid (show RowsIn w4 bb rs from Blk.rows (t := 35) H4.out)
  have B4 := Lib.hid (B3.out.trans (hb4.mono (by omega)))
  clear H4 hb4 V3 Z3 R3 B3 D3 c0 c1 c2 c3 lb d0 d1 d2 d3 ld
  obtain ⟨c0, c1, c2, c3, lb⟩ := blk4_facts V4.out
  obtain ⟨d0, d1, d2, d3, ld⟩ := blk4_facts Z4.out
  have f2 := Z4.out.frozen 2; have f3 := Z4.out.frozen 3
  have Z5' := Z4.out.set 3 (.bool true)
  have V5' := V4.out.other (b' := w.heap.size + 1) 3 (.bool true) (by omega)
  have R5' := R4.out.other (b' := w.heap.size + 1) (o := 3) (v := .bool true) (by omega)
  have B5' := B4.out.setCell (p := ⟨w.heap.size + 1, 3, none⟩) (by show w.heap.size ≤ w.heap.size + 1; omega) (.bool true)
  go_wp2_with fail
  generalize w4.setCell ⟨w.heap.size + 1, 3, none⟩ (.bool true) = w5 at Z5' V5' R5' B5' ⊢
  have Z5 := Lib.hid (show Blk w5 (w.heap.size + 1) (dskC (some ⟨bb, 0, none⟩) ns ns none 0 0 (m : Int) true) 25 from Z5')
  have V5 := Lib.hid V5'
  have R5 := Lib.hid R5'
  have B5 := Lib.hid B5'
  clear Z5' V5' R5' B5' Z4 V4 R4 B4
  go_loopw [47] (fun i wr => ∃ k : Nat, k ≤ m ∧ i = .int .i64 k ∧ Hid (RowsIn wr bb (setRows rs (ws.take k))) ∧ Hid (Blk wr (w.heap.size + 1) (dskC (some ⟨bb, 0, none⟩) ns ns none 0 0 (m : Int) true) 25) ∧ Hid (Blk wr w.heap.size (dskC ps ns cs (some pa) np cp (m : Int) false) 25) ∧ Hid (Below w.heap.size w wr)) (fun i _ => m - (intOf i).toNat)
  case atStart => exact ⟨0, by omega, rfl, Lib.hid (by rw [List.take_zero]; exact R5.out), Z5, V5, B5⟩
  case round =>
    obtain ⟨k, hk, rfl, HR, HZ, HVx, HB⟩ := hrel
    clear R5 Z5 V5 B5 c0 c1 c2 c3 lb d0 d1 d2 d3 ld f2 f3
    by_cases hlt : k < m
    · obtain ⟨b', off, hp, hb', hcell, hcell2, hwt⟩ := (hz.out.2.1.below HB.out).at (k := k) (by omega)
      cases hp
      have HX := Lib.hid (HV.out.2.2.1 (ws.getD k wt0) (getD_mem (by have := HNp.out; omega)))
      have HTK := Lib.hid (show setRows rs (ws.take (k + 1)) = (setRows rs (ws.take k)).set (ws.getD k wt0).pos.toNat (ws.getD k wt0).row by rw [take_snocD ws k wt0 (by have := HNp.out; omega), setRows_snoc])
      obtain ⟨⟨po, ⟨xp, xm, xc, xb⟩⟩, hx⟩ : ∃ y, ws.getD k wt0 = y := ⟨_, rfl⟩
      rw [hx] at hcell hcell2 HX HTK
      dsimp only [Rw.v] at hcell hcell2
      dsimp only at HX HTK
      clear hx hwt
      obtain ⟨j, rfl⟩ : ∃ j : Nat, po = (j : Int) := ⟨po.toNat, by have := HX.out.1.1; omega⟩
      have hj : j < ns := by have := HX.out.1.2; have := HNs.out; omega
      have hxm := HX.out.2
      subst hxm
      have HL := Lib.hid (show (setRows rs (ws.take k)).length = ns by rw [setRows_len, HNs.out])
      obtain ⟨rc1, rc2⟩ := HR.out.2 j (by rw [HL.out]; exact hj)
      dsimp only [Rw.v] at rc1
      have rlt := HR.out.1
      obtain ⟨d0, d1, d2, d3, ld⟩ := blk4_facts HZ.out
      clear HX
      go_wp2_with fail
      go_roundw
      case rel =>
        refine ⟨k + 1, by omega, by go_num, Lib.hid ?_, Lib.hid ?_, Lib.hid ?_, Lib.hid ?_⟩
        · rw [HTK.out]
          exact (HR.out.set (k := j) (r := ⟨xp, 128, xc, xb⟩) (by rw [HL.out]; exact hj)).below (bel_alloc1 _ _) (by simpa using rlt)
        · exact (HZ.out.other (b' := bb) _ _ (by omega)).alloc _
        · exact (HVx.out.other (b' := bb) _ _ (by omega)).alloc _
        · exact (HB.out.setCell (p := ⟨bb, j, none⟩) (by show w.heap.size ≤ bb; omega) _).alloc (by simpa using HB.out.size) _
      case measure => simp [intOf]; omega
    · obtain rfl : k = m := by omega
      obtain ⟨b', off, hp, hb', hcell, hcell2, hwt⟩ := (hz.out.2.1.below HB.out).at (k := k) (by omega)
      cases hp
      have HX := Lib.hid (HV.out.2.2.1 (ws.getD k wt0) (getD_mem (by have := HNp.out; omega)))
      have HSB := Lib.hid (show synB (rs.map (·.bs)) ws (k : Int) = (setB (rs.map (·.bs)) (ws.take k)).set (ws.getD k wt0).pos.toNat (tornB ((setB (rs.map (·.bs)) (ws.take k)).getD (ws.getD k wt0).pos.toNat []) (ws.getD k wt0).row.bs) by
        unfold synB
        rw [if_pos (by unfold stopB; have := HNp.out; simp; omega)]
        rfl)
      obtain ⟨⟨po, ⟨xp, xm, xc, xb⟩⟩, hx⟩ : ∃ y, ws.getD k wt0 = y := ⟨_, rfl⟩
      rw [hx] at hcell hcell2 HX HSB hwt
      dsimp only [Rw.v] at hcell hcell2
      dsimp only at HX HSB
      clear hx
      obtain ⟨j, rfl⟩ : ∃ j : Nat, po = (j : Int) := ⟨po.toNat, by have := HX.out.1.1; omega⟩
      have hj : j < ns := by have := HX.out.1.2; have := HNs.out; omega
      have hxm := HX.out.2
      subst hxm
      have HW0 := Lib.hid (show ∀ r ∈ setRows rs (ws.take k), RwOk w r ∧ r.m = 128 from setRows_all (q := fun r => RwOk w r ∧ r.m = 128) (ws.take k) rs (fun r hr => ⟨hz.out.1.2.2.1 r hr, HV.out.2.1 r hr⟩) (fun x hx => ⟨(hz.out.2.1.2.2.1 x (List.mem_of_mem_take hx)).2, (HV.out.2.2.1 x (List.mem_of_mem_take hx)).2⟩))
      have HSM := Lib.hid (setRows_map (ws.take k) rs)
      have HSP := Lib.hid (show ∀ b, (∀ r ∈ rs, SepR r b) → (∀ x ∈ ws, SepR x.row b) → ∀ r ∈ setRows rs (ws.take k), SepR r b from fun b q1 q2 => setRows_all (q := fun r => SepR r b) (ws.take k) rs q1 (fun x hx => q2 x (List.mem_of_mem_take hx)))
      obtain ⟨RS, hRS⟩ : ∃ l, setRows rs (ws.take k) = l := ⟨_, rfl⟩
      have HL := Lib.hid (show RS.length = ns by rw [← hRS, setRows_len, HNs.out])
      rw [hRS] at HR HW0 HSM HSP
      clear hRS
      obtain ⟨rc1, rc2⟩ := HR.out.2 j (by rw [HL.out]; exact hj)
      have HO := Lib.hid (HW0.out (RS.getD j rw0) (getD_mem (by rw [HL.out]; exact hj)))
      have HOB := Lib.hid (show (RS.map (·.bs)).getD j [] = (RS.getD j rw0).bs by
        have h : j < RS.length := by rw [HL.out]; exact hj
        simp [h])
      obtain ⟨⟨op, om, oc, ob⟩, hy⟩ : ∃ y, RS.getD j rw0 = y := ⟨_, rfl⟩
      rw [hy] at rc1 HO HOB
      have HY := Lib.hid hy
      clear hy
      have HOR := Lib.hid HO.out.1.2.1
      have HDR := Lib.hid hwt.2.2.1
      dsimp only at HOR HDR HOB
      dsimp only [Rw.v] at rc1
      have hom := HO.out.2
      dsimp only at hom
      subst hom
      obtain ⟨bo, oo, hop, hbo, hO1, hO2, hO3, hO4⟩ := row128 (HO.out.1.below HB.out) rfl
      obtain ⟨bd, od, hxp, hbd, hD1, hD2, hD3, hD4⟩ := row128 hwt.2 rfl
      dsimp only at hop hxp hO1 hO2 hO3 hO4 hD1 hD2 hD3 hD4
      subst hop hxp
      have HO1 := Lib.hid hO1; have HO2 := Lib.hid hO2; have HD1 := Lib.hid hD1; have HD2 := Lib.hid hD2
      have rlt := HR.out.1
      have hwlt : w.heap.size + 1 < wr.heap.size := HZ.out.lt
      clear hO1 hO2 hD1 hD2 HX hwt HO
      obtain ⟨c0, c1, c2, c3, lb⟩ := blk4_facts HVx.out
      obtain ⟨d0, d1, d2, d3, ld⟩ := blk4_facts HZ.out
      go_upto_region 18 with fail
      refine wp_region_any (by kernel_rfl) ?_
      change wpAny _ _ _ _ _ _ _ (World.drew _)
      have TX0 := Blk.new wr #[.int .i64 (j : Int), .slice (some ⟨bd, od, none⟩) 128 xc] 54
      have ZX0 := HZ.out.alloc (.cells #[.int .i64 (j : Int), .slice (some ⟨bd, od, none⟩) 128 xc] 54)
      have VX0 := HVx.out.alloc (.cells #[.int .i64 (j : Int), .slice (some ⟨bd, od, none⟩) 128 xc] 54)
      have RX0 := HR.out.below (bel_alloc1 wr (.cells #[.int .i64 (j : Int), .slice (some ⟨bd, od, none⟩) 128 xc] 54)) rlt
      have EX0 := bel_alloc1 wr (.cells #[.int .i64 (j : Int), .slice (some ⟨bd, od, none⟩) 128 xc] 54)
      generalize hWD : World.drew _ = W2
      have TX := Lib.hid (show Blk W2 wr.heap.size #[.int .i64 (j : Int), .slice (some ⟨bd, od, none⟩) 128 xc] 54 by rw [← hWD]; exact TX0)
      have ZX := Lib.hid (show Blk W2 (w.heap.size + 1) (dskC (some ⟨bb, 0, none⟩) ns ns none 0 0 (k : Int) true) 25 by rw [← hWD]; exact ZX0)
      have RX := Lib.hid (show RowsIn W2 bb RS by rw [← hWD]; exact RX0)
      have EX := Lib.hid (show Below wr.heap.size wr W2 by rw [← hWD]; exact EX0.drew)
      have sW2 : wr.heap.size < W2.heap.size := TX.out.lt
      clear hWD TX0 ZX0 VX0 RX0 EX0 c0 c1 c2 c3 lb d0 d1 d2 d3 ld hcell hcell2 rc1 rc2
      have hCD : ∀ u, Ext W2 u → Ext W2 u := fun u hu => hu
      have HRC := Lib.hid (fun u (hu : Ext W2 u) => show u.cell? ⟨bb, j, none⟩ = some (.slice (some ⟨bo, oo, none⟩) 128 oc) from by
        have := ((RX.out.below hu (by omega)).2 j (by rw [HL.out]; exact hj)).1
        rw [this, HY.out])
      refine region_U (D := Ext W2) (Ext W2) [13, 14] (Ext.refl W2) ?_
      refine anyU_takeD (i := 0) (v := .pointer (some ⟨w.heap.size + 1, 0, none⟩)) 66 rfl rfl (by kernel_rfl) (by kernel_rfl) (by kernel_rfl) (fun _ _ _ h => h) (by kernel_rfl) (Ext.stable _) hCD (yieldsU_val rfl (fun u hu => by go_simp)) ?_
      refine anyU_takeD (i := 1) (v := .slice (some ⟨bb, 0, none⟩) ns ns) 67 rfl rfl (by kernel_rfl) (by kernel_rfl) (by kernel_rfl) (fun _ _ _ h => h) (by kernel_rfl) (Ext.stable _) hCD (yieldsU_val rfl (fun u hu => by have c := (ZX.out.below hu ZX.out.lt).cell 0; go_simp)) ?_
      refine anyU_takeD (i := 2) (v := .pointer (some ⟨wr.heap.size, 0, none⟩)) 68 rfl rfl (by kernel_rfl) (by kernel_rfl) (by kernel_rfl) (fun _ _ _ h => h) (by kernel_rfl) (Ext.stable _) hCD (yieldsU_val rfl (fun u hu => by go_simp)) ?_
      refine anyU_takeD (i := 3) (v := .int .i64 (j : Int)) 69 rfl rfl (by kernel_rfl) (by kernel_rfl) (by kernel_rfl) (fun _ _ _ h => h) (by kernel_rfl) (Ext.stable _) hCD (yieldsU_val rfl (fun u hu => by have c := (TX.out.below hu TX.out.lt).cell 0; simp at c; go_simp)) ?_
      refine anyU_takeD (i := 4) (v := .pointer (some ⟨w.heap.size + 1, 0, none⟩)) 70 rfl rfl (by kernel_rfl) (by kernel_rfl) (by kernel_rfl) (fun _ _ _ h => h) (by kernel_rfl) (Ext.stable _) hCD (yieldsU_val rfl (fun u hu => by go_simp)) ?_
      refine anyU_takeD (i := 5) (v := .slice (some ⟨bb, 0, none⟩) ns ns) 71 rfl rfl (by kernel_rfl) (by kernel_rfl) (by kernel_rfl) (fun _ _ _ h => h) (by kernel_rfl) (Ext.stable _) hCD (yieldsU_val rfl (fun u hu => by have c := (ZX.out.below hu ZX.out.lt).cell 0; go_simp)) ?_
      simp only [Act.put, List.setIfInBounds_toArray, List.set_cons_succ, List.set_cons_zero]
      refine anyU_takeD (i := 6) (v := .pointer (some ⟨wr.heap.size, 0, none⟩)) 72 rfl rfl (by kernel_rfl) (by kernel_rfl) (by kernel_rfl) (fun _ _ _ h => h) (by kernel_rfl) (Ext.stable _) hCD (yieldsU_val rfl (fun u hu => by go_simp)) ?_
      refine anyU_takeD (i := 7) (v := .int .i64 (j : Int)) 73 rfl rfl (by kernel_rfl) (by kernel_rfl) (by kernel_rfl) (fun _ _ _ h => h) (by kernel_rfl) (Ext.stable _) hCD (yieldsU_val rfl (fun u hu => by have c := (TX.out.below hu TX.out.lt).cell 0; simp at c; go_simp)) ?_
      refine anyU_takeD (i := 8) (v := .pointer (some ⟨bb, j, none⟩)) 74 rfl rfl (by kernel_rfl) (by kernel_rfl) (by kernel_rfl) (fun _ _ _ h => h) (by kernel_rfl) (Ext.stable _) hCD (yieldsU_val rfl (fun u hu => by go_simp)) ?_
      refine anyU_takeD (i := 9) (v := .slice (some ⟨bo, oo, none⟩) 128 oc) 75 rfl rfl (by kernel_rfl) (by kernel_rfl) (by kernel_rfl) (fun _ _ _ h => h) (by kernel_rfl) (Ext.stable _) hCD (yieldsU_val rfl (fun u hu => by have c := HRC.out u hu; go_simp)) ?_
      refine anyU_takeD (i := 10) (v := .pointer (some ⟨wr.heap.size, 1, none⟩)) 76 rfl rfl (by kernel_rfl) (by kernel_rfl) (by kernel_rfl) (fun _ _ _ h => h) (by kernel_rfl) (Ext.stable _) hCD (yieldsU_val rfl (fun u hu => by go_simp)) ?_
      refine anyU_takeD (i := 11) (v := .slice (some ⟨bd, od, none⟩) 128 xc) 77 rfl rfl (by kernel_rfl) (by kernel_rfl) (by kernel_rfl) (fun _ _ _ h => h) (by kernel_rfl) (Ext.stable _) hCD (yieldsU_val rfl (fun u hu => by have c := (TX.out.below hu TX.out.lt).cell 1; simp at c; go_simp)) ?_
      simp only [Act.put, List.setIfInBounds_toArray, List.set_cons_succ, List.set_cons_zero]
      refine anyU_one 12 2 _ rfl rfl (by kernel_rfl) ?_
      intro u hu
      go_wp2_with fail
      refine (torn_any bo oo oc bd od xc ob xb u (Lib.hid (HO1.out.below (EX.out.trans (hu.mono (by omega))) hbo)) (Lib.hid (HD1.out.below (EX.out.trans (hu.mono (by omega))) hbd)) HO2 HD2 hO3 hD3 hO4 hD4 (by have := hu.size; omega) (by have := hu.size; omega)).mono ?_
      rintro e u1 ⟨rfl, hb1, hk1⟩
      go_wp2_with fail
      change ∃ C' : World → Prop, _ ∧ _ ∧ _ ∧ anyU _ _ _ _ _ _ 2 _ _ _
      have E1 := Lib.hid (Ext.trans hu hb1)
      have Y1 := Lib.hid hk1
      have lt1 : W2.heap.size ≤ u.heap.size := hu.size
      generalize u.heap.size = nt at Y1 lt1 ⊢
      clear hu hb1 hk1
      refine anchorF (fun y => Ext W2 y ∧ Blk y nt (bv (xb.take 64 ++ ob.drop 64)).toArray 5) (fun y hy => hy.1) ((Ext.stable W2).and (fun y z h k => h.below k h.lt)) ⟨E1.out, Y1.out⟩ ?_
      (try simp only [Act.put])
      clear E1 Y1
      refine anyU_tail 13 [14] rfl rfl (by decide) (by kernel_rfl) ?_
      intro u2 hu2
      simp only [Act.put, List.filterMap_cons, List.filterMap_nil, List.getElem?_cons_succ, List.getElem?_cons_zero]
      have Z2 := Lib.hid (ZX.out.below hu2.1 ZX.out.lt)
      have R2 := Lib.hid (RX.out.below hu2.1 (by omega))
      have Y2 := Lib.hid hu2.2
      have K2 := Lib.hid (show Below wr.heap.size wr u2 from EX.out.trans (Below.mono hu2.1 (by omega)))
      have V2 := Lib.hid (HVx.out.below K2.out HVx.out.lt)
      have B2 := Lib.hid (HB.out.trans (K2.out.mono HB.out.size))
      have rc1 := HRC.out u2 hu2.1
      have rc2 := (R2.out.2 j (by rw [HL.out]; exact hj)).2
      clear hu2
      obtain ⟨c0, c1, c2, c3, lb⟩ := blk4_facts V2.out
      obtain ⟨d0, d1, d2, d3, ld⟩ := blk4_facts Z2.out
      have f0 := Z2.out.frozen 0; have f1 := Z2.out.frozen 1; have f2 := Z2.out.frozen 2; have f3 := Z2.out.frozen 3
      have rl2 := R2.out.1
      have ZF := ((((((Z2.out.other (b' := bb) j (.slice (some ⟨nt, 0, none⟩) 128 128) (by omega)).set 2 (.int .i64 0)).set 0 (.slice (some ⟨bb, 0, none⟩) ns ns)).set 1 (.slice none 0 0)).set 2 (.int .i64 0)).set 3 (.bool true))
      have RF := ((((((R2.out.set (k := j) (r := ⟨some ⟨nt, 0, none⟩, 128, 128, tornB ob xb⟩) (by rw [HL.out]; exact hj)).other (b' := w.heap.size + 1) (o := 2) (v := (.int .i64 0)) (by omega)).other (b' := w.heap.size + 1) (o := 0) (v := (.slice (some ⟨bb, 0, none⟩) ns ns)) (by omega)).other (b' := w.heap.size + 1) (o := 1) (v := (.slice none 0 0)) (by omega)).other (b' := w.heap.size + 1) (o := 2) (v := (.int .i64 0)) (by omega)).other (b' := w.heap.size + 1) (o := 3) (v := (.bool true)) (by omega))
      have BF := ((((((B2.out.setCell (p := ⟨bb, j, none⟩) (by show w.heap.size ≤ bb; omega) (.slice (some ⟨nt, 0, none⟩) 128 128)).setCell (p := ⟨w.heap.size + 1, 2, none⟩) (by show w.heap.size ≤ w.heap.size + 1; omega) (.int .i64 0)).setCell (p := ⟨w.heap.size + 1, 0, none⟩) (by show w.heap.size ≤ w.heap.size + 1; omega) (.slice (some ⟨bb, 0, none⟩) ns ns)).setCell (p := ⟨w.heap.size + 1, 1, none⟩) (by show w.heap.size ≤ w.heap.size + 1; omega) (.slice none 0 0)).setCell (p := ⟨w.heap.size + 1, 2, none⟩) (by show w.heap.size ≤ w.heap.size + 1; omega) (.int .i64 0)).setCell (p := ⟨w.heap.size + 1, 3, none⟩) (by show w.heap.size ≤ w.heap.size + 1; omega) (.bool true))
      have YF := ((((((Y2.out.other (b' := bb) j (.slice (some ⟨nt, 0, none⟩) 128 128) (by omega)).other (b' := w.heap.size + 1) 2 (.int .i64 0) (by omega)).other (b' := w.heap.size + 1) 0 (.slice (some ⟨bb, 0, none⟩) ns ns) (by omega)).other (b' := w.heap.size + 1) 1 (.slice none 0 0) (by omega)).other (b' := w.heap.size + 1) 2 (.int .i64 0) (by omega)).other (b' := w.heap.size + 1) 3 (.bool true) (by omega))
      go_wp2_with fail
      generalize ((((((u2.setCell ⟨bb, j, none⟩ (.slice (some ⟨nt, 0, none⟩) 128 128)).setCell ⟨w.heap.size + 1, 2, none⟩ (.int .i64 0)).setCell ⟨w.heap.size + 1, 0, none⟩ (.slice (some ⟨bb, 0, none⟩) ns ns)).setCell ⟨w.heap.size + 1, 1, none⟩ (.slice none 0 0)).setCell ⟨w.heap.size + 1, 2, none⟩ (.int .i64 0)).setCell ⟨w.heap.size + 1, 3, none⟩ (.bool true)) = W9 at ZF RF BF YF ⊢
      have ZF' : Blk W9 (w.heap.size + 1) (dskC (some ⟨bb, 0, none⟩) ns ns none 0 0 0 true) 25 := ZF
      clear ZF c0 c1 c2 c3 lb d0 d1 d2 d3 ld f0 f1 f2 f3 rc1 rc2
      obtain ⟨e0, e1, e2, e3, le⟩ := blk4_facts ZF'
      refine bodyPost_ret (v := .tuple #[.agg (dskC (some ⟨bb, 0, none⟩) ns ns none 0 0 0 true), .int .i64 40]) ?_ rfl ⟨?_, BF⟩
      · rw [results_cell_tmp rfl]; go_simp
      · have hs : stopB (k : Int) ws.length = true := by unfold stopB; have := HNp.out; simp; omega
        refine isSyn (rows := RS.set j ⟨some ⟨nt, 0, none⟩, 128, 128, tornB ob xb⟩) RF (by rw [List.length_set, HL.out]) hns.1 (Nat.le_refl _) (by omega) (fun r hr => ?_) (fun r hr => ?_) ?_ (by unfold synL; rw [hs]; rfl) hs (by rw [hs]; rfl) (by omega) (fun b hb z1 z2 r hr => ?_)
        · rcases List.mem_or_eq_of_mem_set hr with h | h
          · exact (HW0.out r h).1.below BF
          · rw [h]; exact torn_ok YF HO2.out HD2.out HOR.out HDR.out
        · rcases List.mem_or_eq_of_mem_set hr with h | h
          · exact (HW0.out r h).2
          · rw [h]
        · rw [List.map_set, HSB.out, ← HSM.out, Int.toNat_natCast, HOB.out]
        · rcases List.mem_or_eq_of_mem_set hr with h | h
          · exact HSP.out b z1 z2 r h
          · rw [h]; exact .inr fun a ha => by cases ha; show nt ≠ b; omega
end Go.Proofs.Ytackklbifppfeaa
