/- disk.Sync. -/
import Derived.Test.YtackklbifppfeaaDskSy0
import Derived.Laws.MakeOwn
namespace Go.Proofs.Ytackklbifppfeaa
open Go.RowKit
set_option linter.unusedVariables false
set_option linter.unusedSimpArgs false

theorem make_rows (n : Nat) (h : n ≤ 4096) (w : World) : (Instr.makeSlice 22 (.int .i64 (n : Int)) (.int .i64 (n : Int))).run Try.prog w = .ok (.slice (some ⟨w.heap.size, 0, none⟩) n n) (w.alloc (.cells (List.replicate n (Value.slice none 0 0)).toArray 35)) := by
  obtain ⟨i0, hi, hz0, hz1, hz2⟩ := info_parts infoS
  have := run_makeSlice (P := Try.prog) (w := w) 22 35 i0 (.slice none 0 0) Try.underlying22 hi hz0 .i64 .i64 n n (by omega) (by omega) (by rw [hz1]; simp; omega) (by rw [hz2]; omega) (by omega)
  rw [this, hz1]
  simp only [Int.toNat_natCast, Nat.mul_one]
  congr 3
  apply Array.ext'
  apply List.ext_getElem
  · simp [madeCells]
  · intro j h1 h2
    simp [madeCells, Value.cells, Nat.mod_one]
theorem run_facts {left : Int} {st : Bool} {rs : List Rw} {ws : List Wt} (h : runB left st rs ws = true) : (1 ≤ rs.length ∧ rs.length ≤ 4096 ∧ ws.length ≤ 4096 ∧ -1 ≤ left ∧ left ≤ 65536) ∧ (∀ r ∈ rs, r.m = 128) ∧ (∀ x ∈ ws, (0 ≤ x.pos ∧ x.pos < rs.length) ∧ x.row.m = 128) ∧ st = false := by
  unfold runB chkB at h
  simp only [Bool.and_eq_true, List.all_eq_true] at h
  obtain ⟨⟨h1, h2, h3⟩, h4⟩ := h
  refine ⟨nums_t h1, fun r hr => ?_, fun x hx => ?_, by simpa using h4⟩
  · have := h2 r hr; unfold rowB at this; simpa using this
  · have := h3 x hx; unfold wtB at this; simp at this; omega
theorem isSyn {ns : Nat} {rs rows : List Rw} {ws : List Wt} {left l2 e2 : Int} {st2 : Bool} {w' : World} {g c B0 : Nat} (h1 : RowsIn w' g rows) (h2 : ns = rows.length) (h3 : ns ≤ 4096) (hc : ns ≤ c) (hc2 : c ≤ 9223372036854775807) (h4 : ∀ r ∈ rows, RwOk w' r) (h5 : ∀ r ∈ rows, r.m = 128) (h6 : rows.map (·.bs) = synB (rs.map (·.bs)) ws left)
    (h7 : synL left ws.length = l2) (h8 : stopB left ws.length = st2) (h9 : (if stopB left ws.length then 40 else 0) = e2) (h10 : B0 ≤ g) (h11 : ∀ b, b < B0 → (∀ r ∈ rs, SepR r b) → (∀ x ∈ ws, SepR x.row b) → ∀ r ∈ rows, SepR r b) : IsSyn B0 ns rs ws left w' (.returned (.tuple #[.agg (dskC (some ⟨g, 0, none⟩) ns c none 0 0 l2 st2), .int .i64 e2])) := by
  refine ⟨g, c, rows, ?_, h1.secs h2 (by omega) h4, hc, hc2, h5, h6, h10, h11⟩
  rw [h7, h8]
  rw [h8] at h9
  rw [h9]
set_option maxRecDepth 100000 in
set_option maxHeartbeats 4000000 in
theorem sync_m1 (pa : Addr) (ps : Option Addr) (ns cs : Nat) (np cp : Nat) (rs : List Rw) (ws : List Wt) (w : World) (hz : Hid (DskV w ps ns (some pa) np (-1) rs ws)) (hq : Hid (runB (-1) false rs ws = true)) (hp1 : np ≤ cp) (hp2 : cp ≤ 9223372036854775807) :
    Calls Try.prog 23 #[.agg (dskC ps ns cs (some pa) np cp (-1) false)] w fun e w' => IsSyn w.heap.size ns rs ws (-1) w' e ∧ Below w.heap.size w w' := by
  have V0 := Lib.hid (Blk.new w (dskC ps ns cs (some pa) np cp (-1) false) 25)
  have h1 := Lib.hid (bel_alloc1 w (.cells (dskC ps ns cs (some pa) np cp (-1) false) 25))
  have VW := Lib.hid (V0.out.alloc (.cells #[.slice none 0 0, .slice none 0 0, .int .i64 0, .bool false] 25))
  have ZW := Lib.hid (Blk.new (w.alloc (.cells (dskC ps ns cs (some pa) np cp (-1) false) 25)) #[.slice none 0 0, .slice none 0 0, .int .i64 0, .bool false] 25)
  have h2 := Lib.hid (h1.out.alloc h1.out.size (.cells #[.slice none 0 0, .slice none 0 0, .int .i64 0, .bool false] 25))
  have H0 := Lib.hid (hz.out.below h2.out)
  have m1 := hz.out.1.2.1
  have m2 := hz.out.2.1.2.1
  obtain ⟨N, hN⟩ : ∃ N, (w.alloc (.cells (dskC ps ns cs (some pa) np cp (-1) false) 25)).heap.size = N := ⟨_, rfl⟩
  have hNe : N = w.heap.size + 1 := by rw [← hN]; simp
  rw [hN] at ZW
  subst hNe
  clear hN
  have HC := Lib.hid (run_yes hq.out)
  have HNs := Lib.hid hz.out.1.1
  have HNp := Lib.hid hz.out.2.1.1
  have HV := Lib.hid (run_facts hq.out)
  have hns : ns ≤ 4096 ∧ 1 ≤ ns := by have := HV.out.1; have := HNs.out; omega
  have hsz : (Try.prog.info? 35).map (·.size) = some 1 := by kernel_rfl
  have MK := fun u => make_rows ns hns.1 u
  obtain ⟨ZL, hZL⟩ : ∃ Z, List.replicate ns (Value.slice none 0 0) = Z := ⟨_, rfl⟩
  obtain ⟨CS, hCS⟩ : ∃ Z, rs.map Rw.v = Z := ⟨_, rfl⟩
  have lZ := Lib.hid (show ZL.length = ns by rw [← hZL, List.length_replicate])
  have lC := Lib.hid (show CS.length = ns by rw [← hCS, List.length_map, HNs.out])
  have oC := Lib.hid (show ∀ v ∈ CS, v.oneCell' = true by rw [← hCS]; exact rows_one rs)
  have sC := Lib.hid (show ∀ u, SecsV u ps ns rs → 0 < CS.length → ∃ ad, ps = some ad ∧ ∀ j v, CS[j]? = some v → u.cell? (ad.add j) = some v by rw [← hCS]; exact fun u h h0 => secs_src h h0)
  have eC := Lib.hid hCS
  rw [hZL] at MK
  clear hZL hCS
  go_enter Try.func23, Try.ntmps23
  go_wp2_with fail
  refine (running_any ps ns cs (some pa) np cp (-1) false rs ws _ H0).mono ?_; rintro e w1 ⟨rfl, hb⟩
  have V1 := Lib.hid (VW.out.below hb VW.out.lt)
  have Z1 := Lib.hid (ZW.out.below hb ZW.out.lt)
  have B1 := Lib.hid (h2.out.trans (hb.mono h2.out.size)); clear hb
  have D1 := Lib.hid (hz.out.below B1.out)
  obtain ⟨c0, c1, c2, c3, lb⟩ := blk4_facts V1.out
  rw [HC.out]
  go_upto_region 4 with fail
  refine wp_region_any (by kernel_rfl) ?_
  change wpAny _ _ _ _ _ _ _ (World.drew _)
  generalize hWD : World.drew _ = W
  have BX := Lib.hid (show Blk W w.heap.size (dskC ps ns cs (some pa) np cp (-1) false) 25 by rw [← hWD]; exact V1.out)
  have ZX := Lib.hid (show Blk W (w.heap.size + 1) #[.slice none 0 0, .slice none 0 0, .int .i64 0, .bool false] 25 by rw [← hWD]; exact Z1.out)
  have EW := Lib.hid (show Below w.heap.size w W by rw [← hWD]; exact B1.out.drew)
  have hW : w.heap.size + 1 < W.heap.size := ZX.out.lt
  clear hWD V1 Z1 B1 D1 c0 c1 c2 c3 lb
  have hCD : ∀ u, Ext W u → Ext W u := fun u hu => hu
  refine region_U (D := Ext W) (Ext W) [6, 7] (Ext.refl W) ?_
  refine anyU_takeD (i := 0) (v := .pointer (some ⟨w.heap.size, 0, none⟩)) 14 rfl rfl (by kernel_rfl) (by kernel_rfl) (by kernel_rfl) (fun _ _ _ h => h) (by kernel_rfl) (Ext.stable _) hCD (yieldsU_val rfl (fun u hu => by go_simp)) ?_
  refine anyU_takeD (i := 1) (v := .slice ps ns cs) 15 rfl rfl (by kernel_rfl) (by kernel_rfl) (by kernel_rfl) (fun _ _ _ h => h) (by kernel_rfl) (Ext.stable _) hCD (yieldsU_val rfl (fun u hu => by have c := (BX.out.below hu BX.out.lt).cell 0; go_simp)) ?_
  refine anyU_takeD (i := 2) (v := .int .i64 (ns : Int)) 16 rfl rfl (by kernel_rfl) (by kernel_rfl) (by kernel_rfl) (fun _ _ _ h => h) (by kernel_rfl) (Ext.stable _) hCD (yieldsU_val rfl (fun u hu => by go_simp)) ?_
  refine anyU_takeD (i := 4) (v := .pointer (some ⟨w.heap.size, 2, none⟩)) 18 rfl rfl (by kernel_rfl) (by kernel_rfl) (by kernel_rfl) (fun _ _ _ h => h) (by kernel_rfl) (Ext.stable _) hCD (yieldsU_val rfl (fun u hu => by go_simp)) ?_
  refine anyU_takeD (i := 5) (v := .int .i64 (-1)) 19 rfl rfl (by kernel_rfl) (by kernel_rfl) (by kernel_rfl) (fun _ _ _ h => h) (by kernel_rfl) (Ext.stable _) hCD (yieldsU_val rfl (fun u hu => by have c := (BX.out.below hu BX.out.lt).cell 2; simp at c; go_simp)) ?_
  simp only [Act.put, List.setIfInBounds_toArray, List.set_cons_succ, List.set_cons_zero]
  refine anyU_one 3 2 _ rfl rfl (by kernel_rfl) ?_
  intro u hu
  have MK1 := MK u
  go_wp2_with fail
  change ∃ C' : World → Prop, _ ∧ _ ∧ _ ∧ anyU _ _ _ _ _ _ 2 _ _ _
  have hb1 : Below u.heap.size u (u.alloc (.cells ZL.toArray 35)) := bel_alloc1 u _
  have Y1 := Lib.hid (Blk.new u ZL.toArray 35)
  have E1 := Lib.hid (Ext.trans hu hb1)
  clear MK1
  generalize World.alloc u _ = u1 at Y1 E1 hb1 ⊢
  have lt1 : w.heap.size + 1 < u.heap.size := Nat.lt_of_lt_of_le hW hu.size
  generalize u.heap.size = bb at Y1 lt1 ⊢
  clear hu hb1
  refine anchorF (fun y => Ext W y ∧ Blk y bb ZL.toArray 35) (fun y hy => hy.1) ((Ext.stable W).and (fun y z h k => h.below k h.lt)) ⟨E1.out, Y1.out⟩ ?_
  (try simp only [Act.put])
  clear E1 Y1
  refine anyU_tail 6 [7] rfl rfl (by decide) (by kernel_rfl) ?_
  intro u2 hu2
  simp only [Act.put, List.filterMap_cons, List.filterMap_nil, List.getElem?_cons_succ, List.getElem?_cons_zero]
  have V2 := Lib.hid (BX.out.below hu2.1 BX.out.lt)
  have Z2 := Lib.hid (ZX.out.below hu2.1 ZX.out.lt)
  have B2 := Lib.hid (EW.out.trans (Below.mono hu2.1 EW.out.size))
  have R2 := Lib.hid hu2.2
  clear hu2 BX ZX EW
  obtain ⟨d0, d1, d2, d3, ld⟩ := blk4_facts Z2.out
  have f0 := Z2.out.frozen 0; have f1 := Z2.out.frozen 1; have f2 := Z2.out.frozen 2; have f3 := Z2.out.frozen 3
  go_upto_region 5 with fail
  have Z3' := ((((Z2.out.set 0 (.slice (some ⟨bb, 0, none⟩) ns ns)).set 1 (.slice none 0 0)).set 2 (.int .i64 (-1))).set 3 (.bool false))
  have V3' := ((((V2.out.other (b' := w.heap.size + 1) 0 (.slice (some ⟨bb, 0, none⟩) ns ns) (by omega)).other (b' := w.heap.size + 1) 1 (.slice none 0 0) (by omega)).other (b' := w.heap.size + 1) 2 (.int .i64 (-1)) (by omega)).other (b' := w.heap.size + 1) 3 (.bool false) (by omega))
  have R3' := ((((R2.out.other (b' := w.heap.size + 1) 0 (.slice (some ⟨bb, 0, none⟩) ns ns) (by omega)).other (b' := w.heap.size + 1) 1 (.slice none 0 0) (by omega)).other (b' := w.heap.size + 1) 2 (.int .i64 (-1)) (by omega)).other (b' := w.heap.size + 1) 3 (.bool false) (by omega))
  have B3' := ((((B2.out.setCell (p := ⟨w.heap.size + 1, 0, none⟩) (by show w.heap.size ≤ w.heap.size + 1; omega) (.slice (some ⟨bb, 0, none⟩) ns ns)).setCell (p := ⟨w.heap.size + 1, 1, none⟩) (by show w.heap.size ≤ w.heap.size + 1; omega) (.slice none 0 0)).setCell (p := ⟨w.heap.size + 1, 2, none⟩) (by show w.heap.size ≤ w.heap.size + 1; omega) (.int .i64 (-1))).setCell (p := ⟨w.heap.size + 1, 3, none⟩) (by show w.heap.size ≤ w.heap.size + 1; omega) (.bool false))
  generalize (((u2.setCell ⟨w.heap.size + 1, 0, none⟩ (.slice (some ⟨bb, 0, none⟩) ns ns)).setCell ⟨w.heap.size + 1, 1, none⟩ (.slice none 0 0)).setCell ⟨w.heap.size + 1, 2, none⟩ (.int .i64 (-1))).setCell ⟨w.heap.size + 1, 3, none⟩ (.bool false) = u3 at Z3' V3' R3' B3' ⊢
  have Z3 := Lib.hid (show Blk u3 (w.heap.size + 1) (dskC (some ⟨bb, 0, none⟩) ns ns none 0 0 (-1) false) 25 from Z3')
  have V3 := Lib.hid V3'
  have R3 := Lib.hid R3'
  have B3 := Lib.hid B3'
  clear Z3' V3' R3' B3' V2 Z2 R2 B2 d0 d1 d2 d3 ld f0 f1 f2 f3
  obtain ⟨c0, c1, c2, c3, lb⟩ := blk4_facts V3.out
  obtain ⟨d0, d1, d2, d3, ld⟩ := blk4_facts Z3.out
  have D3 := Lib.hid (hz.out.1.below B3.out)
  go_wp2_with (refine wpList_copy_splice rfl (.tmp 22) (.tmp 24) 22 22 rfl 35 Try.underlying22 hsz (some ⟨bb, 0, none⟩) ps ns ns ns cs rfl rfl bb 0 ZL 35 ?c1 CS ?c2 ?c3 ?c4 ?c5 bb u3 ?c6 (Nat.le_refl _) ?_)
  case c1 => exact R3.out
  case c2 => rw [lC.out]; show ns = min ns ns; omega
  case c3 => exact fun h0 => (sC.out _ D3.out h0)
  case c4 => rw [lC.out, lZ.out]; omega
  case c5 => exact oC.out
  case c6 => exact Below.refl _ _
  intro w4 H4 hb4
  rw [splice_all _ _ (by rw [lC.out, lZ.out]), ← eC.out] at H4
  have V4 := Lib.hid (V3.out.below hb4 (by omega))
  have Z4 := Lib.hid (Z3.out.below hb4 (by omega))
  have R4 := Lib.hid (show RowsIn w4 bb rs from Blk.rows (t := 35) H4.out)
  have B4 := Lib.hid (B3.out.trans (hb4.mono (by omega)))
  clear H4 hb4 V3 Z3 R3 B3 D3 c0 c1 c2 c3 lb d0 d1 d2 d3 ld
  obtain ⟨c0, c1, c2, c3, lb⟩ := blk4_facts V4.out
  obtain ⟨d0, d1, d2, d3, ld⟩ := blk4_facts Z4.out
  have f2 := Z4.out.frozen 2; have f3 := Z4.out.frozen 3
  have R5 := R4; have Z5 := Z4; have V5 := V4; have B5 := B4
  clear R4 Z4 V4 B4
  go_wp2_with fail
  go_loopw [47] (fun i wr => ∃ k : Nat, k ≤ np ∧ i = .int .i64 k ∧ Hid (RowsIn wr bb (setRows rs (ws.take k))) ∧ Hid (Blk wr (w.heap.size + 1) (dskC (some ⟨bb, 0, none⟩) ns ns none 0 0 (-1) false) 25) ∧ Hid (Blk wr w.heap.size (dskC ps ns cs (some pa) np cp (-1) false) 25) ∧ Hid (Below w.heap.size w wr)) (fun i _ => np - (intOf i).toNat)
  case atStart => exact ⟨0, by omega, rfl, Lib.hid (by rw [List.take_zero]; exact R5.out), Z5, V5, B5⟩
  case round =>
    obtain ⟨k, hk, rfl, HR, HZ, HVx, HB⟩ := hrel
    clear R5 Z5 V5 B5 c0 c1 c2 c3 lb d0 d1 d2 d3 ld f2 f3
    by_cases hlt : k < np
    · obtain ⟨b', off, hp, hb', hcell, hcell2, hwt⟩ := (hz.out.2.1.below HB.out).at (k := k) (by omega)
      cases hp
      have HX := Lib.hid (HV.out.2.2.1 (ws.getD k wt0) (getD_mem (by have := HNp.out; omega)))
      have HTK := Lib.hid (show setRows rs (ws.take (k + 1)) = (setRows rs (ws.take k)).set (ws.getD k wt0).pos.toNat (ws.getD k wt0).row by rw [take_snocD ws k wt0 (by have := HNp.out; omega), setRows_snoc])
      obtain ⟨⟨po, ⟨xp, xm, xc, xb⟩⟩, hx⟩ : ∃ y, ws.getD k wt0 = y := ⟨_, rfl⟩
      rw [hx] at hcell hcell2 HX HTK
      dsimp only [Rw.v] at hcell hcell2
      dsimp only at HX HTK
      clear hx hwt
      obtain ⟨j, rfl⟩ : ∃ j : Nat, po = (j : Int) := ⟨po.toNat, by have := HX.out.1.1; omega⟩
      have hj : j < ns := by have := HX.out.1.2; have := HNs.out; omega
      have hxm := HX.out.2
      subst hxm
      have HL := Lib.hid (show (setRows rs (ws.take k)).length = ns by rw [setRows_len, HNs.out])
      obtain ⟨rc1, rc2⟩ := HR.out.2 j (by rw [HL.out]; exact hj)
      dsimp only [Rw.v] at rc1
      have rlt := HR.out.1
      obtain ⟨d0, d1, d2, d3, ld⟩ := blk4_facts HZ.out
      clear HX
      go_wp2_with fail
      go_roundw
      case rel =>
        refine ⟨k + 1, by omega, by go_num, Lib.hid ?_, Lib.hid ?_, Lib.hid ?_, Lib.hid ?_⟩
        · rw [HTK.out]
          exact (HR.out.set (k := j) (r := ⟨xp, 128, xc, xb⟩) (by rw [HL.out]; exact hj)).below (bel_alloc1 _ _) (by simpa using rlt)
        · exact (HZ.out.other (b' := bb) _ _ (by omega)).alloc _
        · exact (HVx.out.other (b' := bb) _ _ (by omega)).alloc _
        · exact (HB.out.setCell (p := ⟨bb, j, none⟩) (by show w.heap.size ≤ bb; omega) _).alloc (by simpa using HB.out.size) _
      case measure => simp [intOf]; omega
    · obtain rfl : k = np := by omega
      obtain ⟨c0, c1, c2, c3, lb⟩ := blk4_facts HVx.out
      obtain ⟨d0, d1, d2, d3, ld⟩ := blk4_facts HZ.out
      have f0 := HZ.out.frozen 0; have f1 := HZ.out.frozen 1; have f2 := HZ.out.frozen 2; have f3 := HZ.out.frozen 3
      go_wp2_with fail
      refine bodyPost_ret (v := .tuple #[.agg (dskC (some ⟨bb, 0, none⟩) ns ns none 0 0 (-1) false), .int .i64 0]) ?_ rfl ⟨?_, ?_⟩
      · rw [results_cell_tmp rfl]; go_simp
      · have hw0 : ∀ r ∈ setRows rs ws, RwOk w r ∧ r.m = 128 := setRows_all (q := fun r => RwOk w r ∧ r.m = 128) ws rs (fun r hr => ⟨hz.out.1.2.2.1 r hr, HV.out.2.1 r hr⟩) (fun x hx => ⟨(hz.out.2.1.2.2.1 x hx).2, (HV.out.2.2.1 x hx).2⟩)
        have ht : ws.take k = ws := List.take_of_length_le (by have := HNp.out; omega)
        have hR := HR.out
        rw [ht] at hR
        have hs : stopB (-1) ws.length = false := by unfold stopB; have := HNp.out; simp; try omega
        refine isSyn (rows := setRows rs ws) ?_ (by rw [setRows_len, HNs.out]) hns.1 (Nat.le_refl _) (by omega) (fun r hr => (hw0 r hr).1.below ?_) (fun r hr => (hw0 r hr).2) ?_ ?_ hs (by rw [hs]; rfl) (by omega) (fun b _ q1 q2 => setRows_all (q := fun r => SepR r b) ws rs q1 q2)
        · (iterate 4 (refine RowsIn.other ?_ (by omega))); exact hR
        · (iterate 4 (refine Below.setCell ?_ (by simp) _)); exact HB.out
        · unfold synB; rw [hs, setRows_map]; rfl
        · unfold synL; rw [hs]; have := HNp.out; simp; try omega
      · (iterate 4 (refine Below.setCell ?_ (by simp) _)); exact HB.out
set_option maxRecDepth 100000 in
set_option maxHeartbeats 4000000 in
theorem sync_go (lf : Nat) (pa : Addr) (ps : Option Addr) (ns cs : Nat) (np cp : Nat) (rs : List Rw) (ws : List Wt) (w : World) (hz : Hid (DskV w ps ns (some pa) np (lf : Int) rs ws)) (hq : Hid (runB (lf : Int) false rs ws = true)) (hp1 : np ≤ cp) (hp2 : cp ≤ 9223372036854775807) (hlf : np ≤ lf) :
    Calls Try.prog 23 #[.agg (dskC ps ns cs (some pa) np cp (lf : Int) false)] w fun e w' => IsSyn w.heap.size ns rs ws (lf : Int) w' e ∧ Below w.heap.size w w' := by
  have V0 := Lib.hid (Blk.new w (dskC ps ns cs (some pa) np cp (lf : Int) false) 25)
  have h1 := Lib.hid (bel_alloc1 w (.cells (dskC ps ns cs (some pa) np cp (lf : Int) false) 25))
  have VW := Lib.hid (V0.out.alloc (.cells #[.slice none 0 0, .slice none 0 0, .int .i64 0, .bool false] 25))
  have ZW := Lib.hid (Blk.new (w.alloc (.cells (dskC ps ns cs (some pa) np cp (lf : Int) false) 25)) #[.slice none 0 0, .slice none 0 0, .int .i64 0, .bool false] 25)
  have h2 := Lib.hid (h1.out.alloc h1.out.size (.cells #[.slice none 0 0, .slice none 0 0, .int .i64 0, .bool false] 25))
  have H0 := Lib.hid (hz.out.below h2.out)
  have m1 := hz.out.1.2.1
  have m2 := hz.out.2.1.2.1
  obtain ⟨N, hN⟩ : ∃ N, (w.alloc (.cells (dskC ps ns cs (some pa) np cp (lf : Int) false) 25)).heap.size = N := ⟨_, rfl⟩
  have hNe : N = w.heap.size + 1 := by rw [← hN]; simp
  rw [hN] at ZW
  subst hNe
  clear hN
  have HC := Lib.hid (run_yes hq.out)
  have HNs := Lib.hid hz.out.1.1
  have HNp := Lib.hid hz.out.2.1.1
  have HV := Lib.hid (run_facts hq.out)
  have hns : ns ≤ 4096 ∧ 1 ≤ ns := by have := HV.out.1; have := HNs.out; omega
  have hlb : (lf : Int) ≤ 65536 := by have := HV.out.1; omega
  have hlb2 : lf ≤ 65536 := by omega
  have hsz : (Try.prog.info? 35).map (·.size) = some 1 := by kernel_rfl
  have MK := fun u => make_rows ns hns.1 u
  obtain ⟨ZL, hZL⟩ : ∃ Z, List.replicate ns (Value.slice none 0 0) = Z := ⟨_, rfl⟩
  obtain ⟨CS, hCS⟩ : ∃ Z, rs.map Rw.v = Z := ⟨_, rfl⟩
  have lZ := Lib.hid (show ZL.length = ns by rw [← hZL, List.length_replicate])
  have lC := Lib.hid (show CS.length = ns by rw [← hCS, List.length_map, HNs.out])
  have oC := Lib.hid (show ∀ v ∈ CS, v.oneCell' = true by rw [← hCS]; exact rows_one rs)
  have sC := Lib.hid (show ∀ u, SecsV u ps ns rs → 0 < CS.length → ∃ ad, ps = some ad ∧ ∀ j v, CS[j]? = some v → u.cell? (ad.add j) = some v by rw [← hCS]; exact fun u h h0 => secs_src h h0)
  have eC := Lib.hid hCS
  rw [hZL] at MK
  clear hZL hCS
  go_enter Try.func23, Try.ntmps23
  go_wp2_with fail
  refine (running_any ps ns cs (some pa) np cp (lf : Int) false rs ws _ H0).mono ?_; rintro e w1 ⟨rfl, hb⟩
  have V1 := Lib.hid (VW.out.below hb VW.out.lt)
  have Z1 := Lib.hid (ZW.out.below hb ZW.out.lt)
  have B1 := Lib.hid (h2.out.trans (hb.mono h2.out.size)); clear hb
  have D1 := Lib.hid (hz.out.below B1.out)
  obtain ⟨c0, c1, c2, c3, lb⟩ := blk4_facts V1.out
  rw [HC.out]
  go_upto_region 4 with fail
  refine wp_region_any (by kernel_rfl) ?_
  change wpAny _ _ _ _ _ _ _ (World.drew _)
  generalize hWD : World.drew _ = W
  have BX := Lib.hid (show Blk W w.heap.size (dskC ps ns cs (some pa) np cp (lf : Int) false) 25 by rw [← hWD]; exact V1.out)
  have ZX := Lib.hid (show Blk W (w.heap.size + 1) #[.slice none 0 0, .slice none 0 0, .int .i64 0, .bool false] 25 by rw [← hWD]; exact Z1.out)
  have EW := Lib.hid (show Below w.heap.size w W by rw [← hWD]; exact B1.out.drew)
  have hW : w.heap.size + 1 < W.heap.size := ZX.out.lt
  clear hWD V1 Z1 B1 D1 c0 c1 c2 c3 lb
  have hCD : ∀ u, Ext W u → Ext W u := fun u hu => hu
  refine region_U (D := Ext W) (Ext W) [6, 7] (Ext.refl W) ?_
  refine anyU_takeD (i := 0) (v := .pointer (some ⟨w.heap.size, 0, none⟩)) 14 rfl rfl (by kernel_rfl) (by kernel_rfl) (by kernel_rfl) (fun _ _ _ h => h) (by kernel_rfl) (Ext.stable _) hCD (yieldsU_val rfl (fun u hu => by go_simp)) ?_
  refine anyU_takeD (i := 1) (v := .slice ps ns cs) 15 rfl rfl (by kernel_rfl) (by kernel_rfl) (by kernel_rfl) (fun _ _ _ h => h) (by kernel_rfl) (Ext.stable _) hCD (yieldsU_val rfl (fun u hu => by have c := (BX.out.below hu BX.out.lt).cell 0; go_simp)) ?_
  refine anyU_takeD (i := 2) (v := .int .i64 (ns : Int)) 16 rfl rfl (by kernel_rfl) (by kernel_rfl) (by kernel_rfl) (fun _ _ _ h => h) (by kernel_rfl) (Ext.stable _) hCD (yieldsU_val rfl (fun u hu => by go_simp)) ?_
  refine anyU_takeD (i := 4) (v := .pointer (some ⟨w.heap.size, 2, none⟩)) 18 rfl rfl (by kernel_rfl) (by kernel_rfl) (by kernel_rfl) (fun _ _ _ h => h) (by kernel_rfl) (Ext.stable _) hCD (yieldsU_val rfl (fun u hu => by go_simp)) ?_
  refine anyU_takeD (i := 5) (v := .int .i64 (lf : Int)) 19 rfl rfl (by kernel_rfl) (by kernel_rfl) (by kernel_rfl) (fun _ _ _ h => h) (by kernel_rfl) (Ext.stable _) hCD (yieldsU_val rfl (fun u hu => by have c := (BX.out.below hu BX.out.lt).cell 2; simp at c; go_simp)) ?_
  simp only [Act.put, List.setIfInBounds_toArray, List.set_cons_succ, List.set_cons_zero]
  refine anyU_one 3 2 _ rfl rfl (by kernel_rfl) ?_
  intro u hu
  have MK1 := MK u
  go_wp2_with fail
  change ∃ C' : World → Prop, _ ∧ _ ∧ _ ∧ anyU _ _ _ _ _ _ 2 _ _ _
  have hb1 : Below u.heap.size u (u.alloc (.cells ZL.toArray 35)) := bel_alloc1 u _
  have Y1 := Lib.hid (Blk.new u ZL.toArray 35)
  have E1 := Lib.hid (Ext.trans hu hb1)
  clear MK1
  generalize World.alloc u _ = u1 at Y1 E1 hb1 ⊢
  have lt1 : w.heap.size + 1 < u.heap.size := Nat.lt_of_lt_of_le hW hu.size
  generalize u.heap.size = bb at Y1 lt1 ⊢
  clear hu hb1
  refine anchorF (fun y => Ext W y ∧ Blk y bb ZL.toArray 35) (fun y hy => hy.1) ((Ext.stable W).and (fun y z h k => h.below k h.lt)) ⟨E1.out, Y1.out⟩ ?_
  (try simp only [Act.put])
  clear E1 Y1
  refine anyU_tail 6 [7] rfl rfl (by decide) (by kernel_rfl) ?_
  intro u2 hu2
  simp only [Act.put, List.filterMap_cons, List.filterMap_nil, List.getElem?_cons_succ, List.getElem?_cons_zero]
  have V2 := Lib.hid (BX.out.below hu2.1 BX.out.lt)
  have Z2 := Lib.hid (ZX.out.below hu2.1 ZX.out.lt)
  have B2 := Lib.hid (EW.out.trans (Below.mono hu2.1 EW.out.size))
  have R2 := Lib.hid hu2.2
  clear hu2 BX ZX EW
  obtain ⟨d0, d1, d2, d3, ld⟩ := blk4_facts Z2.out
  have f0 := Z2.out.frozen 0; have f1 := Z2.out.frozen 1; have f2 := Z2.out.frozen 2; have f3 := Z2.out.frozen 3
  go_upto_region 5 with fail
  have Z3' := ((((Z2.out.set 0 (.slice (some ⟨bb, 0, none⟩) ns ns)).set 1 (.slice none 0 0)).set 2 (.int .i64 (lf : Int))).set 3 (.bool false))
  have V3' := ((((V2.out.other (b' := w.heap.size + 1) 0 (.slice (some ⟨bb, 0, none⟩) ns ns) (by omega)).other (b' := w.heap.size + 1) 1 (.slice none 0 0) (by omega)).other (b' := w.heap.size + 1) 2 (.int .i64 (lf : Int)) (by omega)).other (b' := w.heap.size + 1) 3 (.bool false) (by omega))
  have R3' := ((((R2.out.other (b' := w.heap.size + 1) 0 (.slice (some ⟨bb, 0, none⟩) ns ns) (by omega)).other (b' := w.heap.size + 1) 1 (.slice none 0 0) (by omega)).other (b' := w.heap.size + 1) 2 (.int .i64 (lf : Int)) (by omega)).other (b' := w.heap.size + 1) 3 (.bool false) (by omega))
  have B3' := ((((B2.out.setCell (p := ⟨w.heap.size + 1, 0, none⟩) (by show w.heap.size ≤ w.heap.size + 1; omega) (.slice (some ⟨bb, 0, none⟩) ns ns)).setCell (p := ⟨w.heap.size + 1, 1, none⟩) (by show w.heap.size ≤ w.heap.size + 1; omega) (.slice none 0 0)).setCell (p := ⟨w.heap.size + 1, 2, none⟩) (by show w.heap.size ≤ w.heap.size + 1; omega) (.int .i64 (lf : Int))).setCell (p := ⟨w.heap.size + 1, 3, none⟩) (by show w.heap.size ≤ w.heap.size + 1; omega) (.bool false))
  generalize (((u2.setCell ⟨w.heap.size + 1, 0, none⟩ (.slice (some ⟨bb, 0, none⟩) ns ns)).setCell ⟨w.heap.size + 1, 1, none⟩ (.slice none 0 0)).setCell ⟨w.heap.size + 1, 2, none⟩ (.int .i64 (lf : Int))).setCell ⟨w.heap.size + 1, 3, none⟩ (.bool false) = u3 at Z3' V3' R3' B3' ⊢
  have Z3 := Lib.hid (show Blk u3 (w.heap.size + 1) (dskC (some ⟨bb, 0, none⟩) ns ns none 0 0 (lf : Int) false) 25 from Z3')
  have V3 := Lib.hid V3'
  have R3 := Lib.hid R3'
  have B3 := Lib.hid B3'
  clear Z3' V3' R3' B3' V2 Z2 R2 B2 d0 d1 d2 d3 ld f0 f1 f2 f3
  obtain ⟨c0, c1, c2, c3, lb⟩ := blk4_facts V3.out
  obtain ⟨d0, d1, d2, d3, ld⟩ := blk4_facts Z3.out
  have D3 := Lib.hid (hz.out.1.below B3.out)
  go_wp2_with (refine wpList_copy_splice rfl (.tmp 22) (.tmp 24) 22 22 rfl 35 Try.underlying22 hsz (some ⟨bb, 0, none⟩) ps ns ns ns cs rfl rfl bb 0 ZL 35 ?c1 CS ?c2 ?c3 ?c4 ?c5 bb u3 ?c6 (Nat.le_refl _) ?_)
  case c1 => exact R3.out
  case c2 => rw [lC.out]; show ns = min ns ns; omega
  case c3 => exact fun h0 => (sC.out _ D3.out h0)
  case c4 => rw [lC.out, lZ.out]; omega
  case c5 => exact oC.out
  case c6 => exact Below.refl _ _
  intro w4 H4 hb4
  rw [splice_all _ _ (by rw [lC.out, lZ.out]), ← eC.out] at H4
  have V4 := Lib.hid (V3.out.below hb4 (by omega))
  have Z4 := Lib.hid (Z3.out.below hb4 (by omega))
  have R4 := Lib.hid (show RowsIn w4 bb rs from Blk.rows (t := 35) H4.out)
  have B4 := Lib.hid (B3.out.trans (hb4.mono (by omega)))
  clear H4 hb4 V3 Z3 R3 B3 D3 c0 c1 c2 c3 lb d0 d1 d2 d3 ld
  obtain ⟨c0, c1, c2, c3, lb⟩ := blk4_facts V4.out
  obtain ⟨d0, d1, d2, d3, ld⟩ := blk4_facts Z4.out
  have f2 := Z4.out.frozen 2; have f3 := Z4.out.frozen 3
  have R5 := R4; have Z5 := Z4; have V5 := V4; have B5 := B4
  clear R4 Z4 V4 B4
  go_wp2_with fail
  go_loopw [47] (fun i wr => ∃ k : Nat, k ≤ np ∧ i = .int .i64 k ∧ Hid (RowsIn wr bb (setRows rs (ws.take k))) ∧ Hid (Blk wr (w.heap.size + 1) (dskC (some ⟨bb, 0, none⟩) ns ns none 0 0 (lf : Int) false) 25) ∧ Hid (Blk wr w.heap.size (dskC ps ns cs (some pa) np cp (lf : Int) false) 25) ∧ Hid (Below w.heap.size w wr)) (fun i _ => np - (intOf i).toNat)
  case atStart => exact ⟨0, by omega, rfl, Lib.hid (by rw [List.take_zero]; exact R5.out), Z5, V5, B5⟩
  case round =>
    obtain ⟨k, hk, rfl, HR, HZ, HVx, HB⟩ := hrel
    clear R5 Z5 V5 B5 c0 c1 c2 c3 lb d0 d1 d2 d3 ld f2 f3
    by_cases hlt : k < np
    · obtain ⟨b', off, hp, hb', hcell, hcell2, hwt⟩ := (hz.out.2.1.below HB.out).at (k := k) (by omega)
      cases hp
      have HX := Lib.hid (HV.out.2.2.1 (ws.getD k wt0) (getD_mem (by have := HNp.out; omega)))
      have HTK := Lib.hid (show setRows rs (ws.take (k + 1)) = (setRows rs (ws.take k)).set (ws.getD k wt0).pos.toNat (ws.getD k wt0).row by rw [take_snocD ws k wt0 (by have := HNp.out; omega), setRows_snoc])
      obtain ⟨⟨po, ⟨xp, xm, xc, xb⟩⟩, hx⟩ : ∃ y, ws.getD k wt0 = y := ⟨_, rfl⟩
      rw [hx] at hcell hcell2 HX HTK
      dsimp only [Rw.v] at hcell hcell2
      dsimp only at HX HTK
      clear hx hwt
      obtain ⟨j, rfl⟩ : ∃ j : Nat, po = (j : Int) := ⟨po.toNat, by have := HX.out.1.1; omega⟩
      have hj : j < ns := by have := HX.out.1.2; have := HNs.out; omega
      have hxm := HX.out.2
      subst hxm
      have HL := Lib.hid (show (setRows rs (ws.take k)).length = ns by rw [setRows_len, HNs.out])
      obtain ⟨rc1, rc2⟩ := HR.out.2 j (by rw [HL.out]; exact hj)
      dsimp only [Rw.v] at rc1
      have rlt := HR.out.1
      obtain ⟨d0, d1, d2, d3, ld⟩ := blk4_facts HZ.out
      clear HX
      go_wp2_with fail
      go_roundw
      case rel =>
        refine ⟨k + 1, by omega, by go_num, Lib.hid ?_, Lib.hid ?_, Lib.hid ?_, Lib.hid ?_⟩
        · rw [HTK.out]
          exact (HR.out.set (k := j) (r := ⟨xp, 128, xc, xb⟩) (by rw [HL.out]; exact hj)).below (bel_alloc1 _ _) (by simpa using rlt)
        · exact (HZ.out.other (b' := bb) _ _ (by omega)).alloc _
        · exact (HVx.out.other (b' := bb) _ _ (by omega)).alloc _
        · exact (HB.out.setCell (p := ⟨bb, j, none⟩) (by show w.heap.size ≤ bb; omega) _).alloc (by simpa using HB.out.size) _
      case measure => simp [intOf]; omega
    · obtain rfl : k = np := by omega
      obtain ⟨c0, c1, c2, c3, lb⟩ := blk4_facts HVx.out
      obtain ⟨d0, d1, d2, d3, ld⟩ := blk4_facts HZ.out
      have f0 := HZ.out.frozen 0; have f1 := HZ.out.frozen 1; have f2 := HZ.out.frozen 2; have f3 := HZ.out.frozen 3
      go_wp2_with fail
      refine bodyPost_ret (v := .tuple #[.agg (dskC (some ⟨bb, 0, none⟩) ns ns none 0 0 ((lf : Int) - (k : Int)) false), .int .i64 0]) ?_ rfl ⟨?_, ?_⟩
      · rw [results_cell_tmp rfl]; go_simp
      · have hw0 : ∀ r ∈ setRows rs ws, RwOk w r ∧ r.m = 128 := setRows_all (q := fun r => RwOk w r ∧ r.m = 128) ws rs (fun r hr => ⟨hz.out.1.2.2.1 r hr, HV.out.2.1 r hr⟩) (fun x hx => ⟨(hz.out.2.1.2.2.1 x hx).2, (HV.out.2.2.1 x hx).2⟩)
        have ht : ws.take k = ws := List.take_of_length_le (by have := HNp.out; omega)
        have hR := HR.out
        rw [ht] at hR
        have hs : stopB (lf : Int) ws.length = false := by unfold stopB; have := HNp.out; simp; try omega
        refine isSyn (rows := setRows rs ws) ?_ (by rw [setRows_len, HNs.out]) hns.1 (Nat.le_refl _) (by omega) (fun r hr => (hw0 r hr).1.below ?_) (fun r hr => (hw0 r hr).2) ?_ ?_ hs (by rw [hs]; rfl) (by omega) (fun b _ q1 q2 => setRows_all (q := fun r => SepR r b) ws rs q1 q2)
        · (iterate 5 (refine RowsIn.other ?_ (by omega))); exact hR
        · (iterate 5 (refine Below.setCell ?_ (by simp) _)); exact HB.out
        · unfold synB; rw [hs, setRows_map]; rfl
        · unfold synL; rw [hs]; have := HNp.out; simp; try omega
      · (iterate 5 (refine Below.setCell ?_ (by simp) _)); exact HB.out
set_option maxRecDepth 100000 in
set_option maxHeartbeats 4000000 in
theorem sync_n1 (ps : Option Addr) (ns cs : Nat) (rs : List Rw) (ws : List Wt) (w : World) (hz : Hid (DskV w ps ns none 0 (-1) rs ws)) (hq : Hid (runB (-1) false rs ws = true)) (hp1 : 0 ≤ 0) (hp2 : 0 ≤ 9223372036854775807) :
    Calls Try.prog 23 #[.agg (dskC ps ns cs none 0 0 (-1) false)] w fun e w' => IsSyn w.heap.size ns rs ws (-1) w' e ∧ Below w.heap.size w w' := by
  have V0 := Lib.hid (Blk.new w (dskC ps ns cs none 0 0 (-1) false) 25)
  have h1 := Lib.hid (bel_alloc1 w (.cells (dskC ps ns cs none 0 0 (-1) false) 25))
  have VW := Lib.hid (V0.out.alloc (.cells #[.slice none 0 0, .slice none 0 0, .int .i64 0, .bool false] 25))
  have ZW := Lib.hid (Blk.new (w.alloc (.cells (dskC ps ns cs none 0 0 (-1) false) 25)) #[.slice none 0 0, .slice none 0 0, .int .i64 0, .bool false] 25)
  have h2 := Lib.hid (h1.out.alloc h1.out.size (.cells #[.slice none 0 0, .slice none 0 0, .int .i64 0, .bool false] 25))
  have H0 := Lib.hid (hz.out.below h2.out)
  have m1 := hz.out.1.2.1
  have m2 := hz.out.2.1.2.1
  obtain ⟨N, hN⟩ : ∃ N, (w.alloc (.cells (dskC ps ns cs none 0 0 (-1) false) 25)).heap.size = N := ⟨_, rfl⟩
  have hNe : N = w.heap.size + 1 := by rw [← hN]; simp
  rw [hN] at ZW
  subst hNe
  clear hN
  have HC := Lib.hid (run_yes hq.out)
  have HNs := Lib.hid hz.out.1.1
  have HNp := Lib.hid hz.out.2.1.1
  have HV := Lib.hid (run_facts hq.out)
  have hns : ns ≤ 4096 ∧ 1 ≤ ns := by have := HV.out.1; have := HNs.out; omega
  have hsz : (Try.prog.info? 35).map (·.size) = some 1 := by kernel_rfl
  have MK := fun u => make_rows ns hns.1 u
  obtain ⟨ZL, hZL⟩ : ∃ Z, List.replicate ns (Value.slice none 0 0) = Z := ⟨_, rfl⟩
  obtain ⟨CS, hCS⟩ : ∃ Z, rs.map Rw.v = Z := ⟨_, rfl⟩
  have lZ := Lib.hid (show ZL.length = ns by rw [← hZL, List.length_replicate])
  have lC := Lib.hid (show CS.length = ns by rw [← hCS, List.length_map, HNs.out])
  have oC := Lib.hid (show ∀ v ∈ CS, v.oneCell' = true by rw [← hCS]; exact rows_one rs)
  have sC := Lib.hid (show ∀ u, SecsV u ps ns rs → 0 < CS.length → ∃ ad, ps = some ad ∧ ∀ j v, CS[j]? = some v → u.cell? (ad.add j) = some v by rw [← hCS]; exact fun u h h0 => secs_src h h0)
  have eC := Lib.hid hCS
  rw [hZL] at MK
  clear hZL hCS
  go_enter Try.func23, Try.ntmps23
  go_wp2_with fail
  refine (running_any ps ns cs none 0 0 (-1) false rs ws _ H0).mono ?_; rintro e w1 ⟨rfl, hb⟩
  have V1 := Lib.hid (VW.out.below hb VW.out.lt)
  have Z1 := Lib.hid (ZW.out.below hb ZW.out.lt)
  have B1 := Lib.hid (h2.out.trans (hb.mono h2.out.size)); clear hb
  have D1 := Lib.hid (hz.out.below B1.out)
  obtain ⟨c0, c1, c2, c3, lb⟩ := blk4_facts V1.out
  rw [HC.out]
  go_upto_region 4 with fail
  refine wp_region_any (by kernel_rfl) ?_
  change wpAny _ _ _ _ _ _ _ (World.drew _)
  generalize hWD : World.drew _ = W
  have BX := Lib.hid (show Blk W w.heap.size (dskC ps ns cs none 0 0 (-1) false) 25 by rw [← hWD]; exact V1.out)
  have ZX := Lib.hid (show Blk W (w.heap.size + 1) #[.slice none 0 0, .slice none 0 0, .int .i64 0, .bool false] 25 by rw [← hWD]; exact Z1.out)
  have EW := Lib.hid (show Below w.heap.size w W by rw [← hWD]; exact B1.out.drew)
  have hW : w.heap.size + 1 < W.heap.size := ZX.out.lt
  clear hWD V1 Z1 B1 D1 c0 c1 c2 c3 lb
  have hCD : ∀ u, Ext W u → Ext W u := fun u hu => hu
  refine region_U (D := Ext W) (Ext W) [6, 7] (Ext.refl W) ?_
  refine anyU_takeD (i := 0) (v := .pointer (some ⟨w.heap.size, 0, none⟩)) 14 rfl rfl (by kernel_rfl) (by kernel_rfl) (by kernel_rfl) (fun _ _ _ h => h) (by kernel_rfl) (Ext.stable _) hCD (yieldsU_val rfl (fun u hu => by go_simp)) ?_
  refine anyU_takeD (i := 1) (v := .slice ps ns cs) 15 rfl rfl (by kernel_rfl) (by kernel_rfl) (by kernel_rfl) (fun _ _ _ h => h) (by kernel_rfl) (Ext.stable _) hCD (yieldsU_val rfl (fun u hu => by have c := (BX.out.below hu BX.out.lt).cell 0; go_simp)) ?_
  refine anyU_takeD (i := 2) (v := .int .i64 (ns : Int)) 16 rfl rfl (by kernel_rfl) (by kernel_rfl) (by kernel_rfl) (fun _ _ _ h => h) (by kernel_rfl) (Ext.stable _) hCD (yieldsU_val rfl (fun u hu => by go_simp)) ?_
  refine anyU_takeD (i := 4) (v := .pointer (some ⟨w.heap.size, 2, none⟩)) 18 rfl rfl (by kernel_rfl) (by kernel_rfl) (by kernel_rfl) (fun _ _ _ h => h) (by kernel_rfl) (Ext.stable _) hCD (yieldsU_val rfl (fun u hu => by go_simp)) ?_
  refine anyU_takeD (i := 5) (v := .int .i64 (-1)) 19 rfl rfl (by kernel_rfl) (by kernel_rfl) (by kernel_rfl) (fun _ _ _ h => h) (by kernel_rfl) (Ext.stable _) hCD (yieldsU_val rfl (fun u hu => by have c := (BX.out.below hu BX.out.lt).cell 2; simp at c; go_simp)) ?_
  simp only [Act.put, List.setIfInBounds_toArray, List.set_cons_succ, List.set_cons_zero]
  refine anyU_one 3 2 _ rfl rfl (by kernel_rfl) ?_
  intro u hu
  have MK1 := MK u
  go_wp2_with fail
  change ∃ C' : World → Prop, _ ∧ _ ∧ _ ∧ anyU _ _ _ _ _ _ 2 _ _ _
  have hb1 : Below u.heap.size u (u.alloc (.cells ZL.toArray 35)) := bel_alloc1 u _
  have Y1 := Lib.hid (Blk.new u ZL.toArray 35)
  have E1 := Lib.hid (Ext.trans hu hb1)
  clear MK1
  generalize World.alloc u _ = u1 at Y1 E1 hb1 ⊢
  have lt1 : w.heap.size + 1 < u.heap.size := Nat.lt_of_lt_of_le hW hu.size
  generalize u.heap.size = bb at Y1 lt1 ⊢
  clear hu hb1
  refine anchorF (fun y => Ext W y ∧ Blk y bb ZL.toArray 35) (fun y hy => hy.1) ((Ext.stable W).and (fun y z h k => h.below k h.lt)) ⟨E1.out, Y1.out⟩ ?_
  (try simp only [Act.put])
  clear E1 Y1
  refine anyU_tail 6 [7] rfl rfl (by decide) (by kernel_rfl) ?_
  intro u2 hu2
  simp only [Act.put, List.filterMap_cons, List.filterMap_nil, List.getElem?_cons_succ, List.getElem?_cons_zero]
  have V2 := Lib.hid (BX.out.below hu2.1 BX.out.lt)
  have Z2 := Lib.hid (ZX.out.below hu2.1 ZX.out.lt)
  have B2 := Lib.hid (EW.out.trans (Below.mono hu2.1 EW.out.size))
  have R2 := Lib.hid hu2.2
  clear hu2 BX ZX EW
  obtain ⟨d0, d1, d2, d3, ld⟩ := blk4_facts Z2.out
  have f0 := Z2.out.frozen 0; have f1 := Z2.out.frozen 1; have f2 := Z2.out.frozen 2; have f3 := Z2.out.frozen 3
  go_upto_region 5 with fail
  have Z3' := ((((Z2.out.set 0 (.slice (some ⟨bb, 0, none⟩) ns ns)).set 1 (.slice none 0 0)).set 2 (.int .i64 (-1))).set 3 (.bool false))
  have V3' := ((((V2.out.other (b' := w.heap.size + 1) 0 (.slice (some ⟨bb, 0, none⟩) ns ns) (by omega)).other (b' := w.heap.size + 1) 1 (.slice none 0 0) (by omega)).other (b' := w.heap.size + 1) 2 (.int .i64 (-1)) (by omega)).other (b' := w.heap.size + 1) 3 (.bool false) (by omega))
  have R3' := ((((R2.out.other (b' := w.heap.size + 1) 0 (.slice (some ⟨bb, 0, none⟩) ns ns) (by omega)).other (b' := w.heap.size + 1) 1 (.slice none 0 0) (by omega)).other (b' := w.heap.size + 1) 2 (.int .i64 (-1)) (by omega)).other (b' := w.heap.size + 1) 3 (.bool false) (by omega))
  have B3' := ((((B2.out.setCell (p := ⟨w.heap.size + 1, 0, none⟩) (by show w.heap.size ≤ w.heap.size + 1; omega) (.slice (some ⟨bb, 0, none⟩) ns ns)).setCell (p := ⟨w.heap.size + 1, 1, none⟩) (by show w.heap.size ≤ w.heap.size + 1; omega) (.slice none 0 0)).setCell (p := ⟨w.heap.size + 1, 2, none⟩) (by show w.heap.size ≤ w.heap.size + 1; omega) (.int .i64 (-1))).setCell (p := ⟨w.heap.size + 1, 3, none⟩) (by show w.heap.size ≤ w.heap.size + 1; omega) (.bool false))
  generalize (((u2.setCell ⟨w.heap.size + 1, 0, none⟩ (.slice (some ⟨bb, 0, none⟩) ns ns)).setCell ⟨w.heap.size + 1, 1, none⟩ (.slice none 0 0)).setCell ⟨w.heap.size + 1, 2, none⟩ (.int .i64 (-1))).setCell ⟨w.heap.size + 1, 3, none⟩ (.bool false) = u3 at Z3' V3' R3' B3' ⊢
  have Z3 := Lib.hid (show Blk u3 (w.heap.size + 1) (dskC (some ⟨bb, 0, none⟩) ns ns none 0 0 (-1) false) 25 from Z3')
  have V3 := Lib.hid V3'
  have R3 := Lib.hid R3'
  have B3 := Lib.hid B3'
  clear Z3' V3' R3' B3' V2 Z2 R2 B2 d0 d1 d2 d3 ld f0 f1 f2 f3
  obtain ⟨c0, c1, c2, c3, lb⟩ := blk4_facts V3.out
  obtain ⟨d0, d1, d2, d3, ld⟩ := blk4_facts Z3.out
  have D3 := Lib.hid (hz.out.1.below B3.out)
  go_wp2_with (refine wpList_copy_splice rfl (.tmp 22) (.tmp 24) 22 22 rfl 35 Try.underlying22 hsz (some ⟨bb, 0, none⟩) ps ns ns ns cs rfl rfl bb 0 ZL 35 ?c1 CS ?c2 ?c3 ?c4 ?c5 bb u3 ?c6 (Nat.le_refl _) ?_)
  case c1 => exact R3.out
  case c2 => rw [lC.out]; show ns = min ns ns; omega
  case c3 => exact fun h0 => (sC.out _ D3.out h0)
  case c4 => rw [lC.out, lZ.out]; omega
  case c5 => exact oC.out
  case c6 => exact Below.refl _ _
  intro w4 H4 hb4
  rw [splice_all _ _ (by rw [lC.out, lZ.out]), ← eC.out] at H4
  have V4 := Lib.hid (V3.out.below hb4 (by omega))
  have Z4 := Lib.hid (Z3.out.below hb4 (by omega))
  have R4 := Lib.hid (show RowsIn w4 bb rs from Blk.rows (t := 35) H4.out)
  have B4 := Lib.hid (B3.out.trans (hb4.mono (by omega)))
  clear H4 hb4 V3 Z3 R3 B3 D3 c0 c1 c2 c3 lb d0 d1 d2 d3 ld
  obtain ⟨c0, c1, c2, c3, lb⟩ := blk4_facts V4.out
  obtain ⟨d0, d1, d2, d3, ld⟩ := blk4_facts Z4.out
  have f2 := Z4.out.frozen 2; have f3 := Z4.out.frozen 3
  have R5 := R4; have Z5 := Z4; have V5 := V4; have B5 := B4
  clear R4 Z4 V4 B4
  go_wp2_with fail
  go_loopw [47] (fun i wr => ∃ k : Nat, k ≤ 0 ∧ i = .int .i64 k ∧ Hid (RowsIn wr bb (setRows rs (ws.take k))) ∧ Hid (Blk wr (w.heap.size + 1) (dskC (some ⟨bb, 0, none⟩) ns ns none 0 0 (-1) false) 25) ∧ Hid (Blk wr w.heap.size (dskC ps ns cs none 0 0 (-1) false) 25) ∧ Hid (Below w.heap.size w wr)) (fun i _ => 0 - (intOf i).toNat)
  case atStart => exact ⟨0, by omega, rfl, Lib.hid (by rw [List.take_zero]; exact R5.out), Z5, V5, B5⟩
  case round =>
    obtain ⟨k, hk, rfl, HR, HZ, HVx, HB⟩ := hrel
    clear R5 Z5 V5 B5 c0 c1 c2 c3 lb d0 d1 d2 d3 ld f2 f3
    obtain rfl : k = 0 := by omega
    obtain ⟨c0, c1, c2, c3, lb⟩ := blk4_facts HVx.out
    obtain ⟨d0, d1, d2, d3, ld⟩ := blk4_facts HZ.out
    have f0 := HZ.out.frozen 0; have f1 := HZ.out.frozen 1; have f2 := HZ.out.frozen 2; have f3 := HZ.out.frozen 3
    go_wp2_with fail
    refine bodyPost_ret (v := .tuple #[.agg (dskC (some ⟨bb, 0, none⟩) ns ns none 0 0 (-1) false), .int .i64 0]) ?_ rfl ⟨?_, ?_⟩
    · rw [results_cell_tmp rfl]; go_simp
    · have hw0 : ∀ r ∈ setRows rs ws, RwOk w r ∧ r.m = 128 := setRows_all (q := fun r => RwOk w r ∧ r.m = 128) ws rs (fun r hr => ⟨hz.out.1.2.2.1 r hr, HV.out.2.1 r hr⟩) (fun x hx => ⟨(hz.out.2.1.2.2.1 x hx).2, (HV.out.2.2.1 x hx).2⟩)
      have ht : ws.take 0 = ws := List.take_of_length_le (by have := HNp.out; omega)
      have hR := HR.out
      rw [ht] at hR
      have hs : stopB (-1) ws.length = false := by unfold stopB; have := HNp.out; simp; try omega
      refine isSyn (rows := setRows rs ws) ?_ (by rw [setRows_len, HNs.out]) hns.1 (Nat.le_refl _) (by omega) (fun r hr => (hw0 r hr).1.below ?_) (fun r hr => (hw0 r hr).2) ?_ ?_ hs (by rw [hs]; rfl) (by omega) (fun b _ q1 q2 => setRows_all (q := fun r => SepR r b) ws rs q1 q2)
      · (iterate 4 (refine RowsIn.other ?_ (by omega))); exact hR
      · (iterate 4 (refine Below.setCell ?_ (by simp) _)); exact HB.out
      · unfold synB; rw [hs, setRows_map]; rfl
      · unfold synL; rw [hs]; have := HNp.out; simp; try omega
    · (iterate 4 (refine Below.setCell ?_ (by simp) _)); exact HB.out
set_option maxRecDepth 100000 in
set_option maxHeartbeats 4000000 in
theorem sync_n2 (lf : Nat) (ps : Option Addr) (ns cs : Nat) (rs : List Rw) (ws : List Wt) (w : World) (hz : Hid (DskV w ps ns none 0 (lf : Int) rs ws)) (hq : Hid (runB (lf : Int) false rs ws = true)) (hp1 : 0 ≤ 0) (hp2 : 0 ≤ 9223372036854775807) :
    Calls Try.prog 23 #[.agg (dskC ps ns cs none 0 0 (lf : Int) false)] w fun e w' => IsSyn w.heap.size ns rs ws (lf : Int) w' e ∧ Below w.heap.size w w' := by
  have V0 := Lib.hid (Blk.new w (dskC ps ns cs none 0 0 (lf : Int) false) 25)
  have h1 := Lib.hid (bel_alloc1 w (.cells (dskC ps ns cs none 0 0 (lf : Int) false) 25))
  have VW := Lib.hid (V0.out.alloc (.cells #[.slice none 0 0, .slice none 0 0, .int .i64 0, .bool false] 25))
  have ZW := Lib.hid (Blk.new (w.alloc (.cells (dskC ps ns cs none 0 0 (lf : Int) false) 25)) #[.slice none 0 0, .slice none 0 0, .int .i64 0, .bool false] 25)
  have h2 := Lib.hid (h1.out.alloc h1.out.size (.cells #[.slice none 0 0, .slice none 0 0, .int .i64 0, .bool false] 25))
  have H0 := Lib.hid (hz.out.below h2.out)
  have m1 := hz.out.1.2.1
  have m2 := hz.out.2.1.2.1
  obtain ⟨N, hN⟩ : ∃ N, (w.alloc (.cells (dskC ps ns cs none 0 0 (lf : Int) false) 25)).heap.size = N := ⟨_, rfl⟩
  have hNe : N = w.heap.size + 1 := by rw [← hN]; simp
  rw [hN] at ZW
  subst hNe
  clear hN
  have HC := Lib.hid (run_yes hq.out)
  have HNs := Lib.hid hz.out.1.1
  have HNp := Lib.hid hz.out.2.1.1
  have HV := Lib.hid (run_facts hq.out)
  have hns : ns ≤ 4096 ∧ 1 ≤ ns := by have := HV.out.1; have := HNs.out; omega
  have hlb : (lf : Int) ≤ 65536 := by have := HV.out.1; omega
  have hlb2 : lf ≤ 65536 := by omega
  have hsz : (Try.prog.info? 35).map (·.size) = some 1 := by kernel_rfl
  have MK := fun u => make_rows ns hns.1 u
  obtain ⟨ZL, hZL⟩ : ∃ Z, List.replicate ns (Value.slice none 0 0) = Z := ⟨_, rfl⟩
  obtain ⟨CS, hCS⟩ : ∃ Z, rs.map Rw.v = Z := ⟨_, rfl⟩
  have lZ := Lib.hid (show ZL.length = ns by rw [← hZL, List.length_replicate])
  have lC := Lib.hid (show CS.length = ns by rw [← hCS, List.length_map, HNs.out])
  have oC := Lib.hid (show ∀ v ∈ CS, v.oneCell' = true by rw [← hCS]; exact rows_one rs)
  have sC := Lib.hid (show ∀ u, SecsV u ps ns rs → 0 < CS.length → ∃ ad, ps = some ad ∧ ∀ j v, CS[j]? = some v → u.cell? (ad.add j) = some v by rw [← hCS]; exact fun u h h0 => secs_src h h0)
  have eC := Lib.hid hCS
  rw [hZL] at MK
  clear hZL hCS
  go_enter Try.func23, Try.ntmps23
  go_wp2_with fail
  refine (running_any ps ns cs none 0 0 (lf : Int) false rs ws _ H0).mono ?_; rintro e w1 ⟨rfl, hb⟩
  have V1 := Lib.hid (VW.out.below hb VW.out.lt)
  have Z1 := Lib.hid (ZW.out.below hb ZW.out.lt)
  have B1 := Lib.hid (h2.out.trans (hb.mono h2.out.size)); clear hb
  have D1 := Lib.hid (hz.out.below B1.out)
  obtain ⟨c0, c1, c2, c3, lb⟩ := blk4_facts V1.out
  rw [HC.out]
  go_upto_region 4 with fail
  refine wp_region_any (by kernel_rfl) ?_
  change wpAny _ _ _ _ _ _ _ (World.drew _)
  generalize hWD : World.drew _ = W
  have BX := Lib.hid (show Blk W w.heap.size (dskC ps ns cs none 0 0 (lf : Int) false) 25 by rw [← hWD]; exact V1.out)
  have ZX := Lib.hid (show Blk W (w.heap.size + 1) #[.slice none 0 0, .slice none 0 0, .int .i64 0, .bool false] 25 by rw [← hWD]; exact Z1.out)
  have EW := Lib.hid (show Below w.heap.size w W by rw [← hWD]; exact B1.out.drew)
  have hW : w.heap.size + 1 < W.heap.size := ZX.out.lt
  clear hWD V1 Z1 B1 D1 c0 c1 c2 c3 lb
  have hCD : ∀ u, Ext W u → Ext W u := fun u hu => hu
  refine region_U (D := Ext W) (Ext W) [6, 7] (Ext.refl W) ?_
  refine anyU_takeD (i := 0) (v := .pointer (some ⟨w.heap.size, 0, none⟩)) 14 rfl rfl (by kernel_rfl) (by kernel_rfl) (by kernel_rfl) (fun _ _ _ h => h) (by kernel_rfl) (Ext.stable _) hCD (yieldsU_val rfl (fun u hu => by go_simp)) ?_
  refine anyU_takeD (i := 1) (v := .slice ps ns cs) 15 rfl rfl (by kernel_rfl) (by kernel_rfl) (by kernel_rfl) (fun _ _ _ h => h) (by kernel_rfl) (Ext.stable _) hCD (yieldsU_val rfl (fun u hu => by have c := (BX.out.below hu BX.out.lt).cell 0; go_simp)) ?_
  refine anyU_takeD (i := 2) (v := .int .i64 (ns : Int)) 16 rfl rfl (by kernel_rfl) (by kernel_rfl) (by kernel_rfl) (fun _ _ _ h => h) (by kernel_rfl) (Ext.stable _) hCD (yieldsU_val rfl (fun u hu => by go_simp)) ?_
  refine anyU_takeD (i := 4) (v := .pointer (some ⟨w.heap.size, 2, none⟩)) 18 rfl rfl (by kernel_rfl) (by kernel_rfl) (by kernel_rfl) (fun _ _ _ h => h) (by kernel_rfl) (Ext.stable _) hCD (yieldsU_val rfl (fun u hu => by go_simp)) ?_
  refine anyU_takeD (i := 5) (v := .int .i64 (lf : Int)) 19 rfl rfl (by kernel_rfl) (by kernel_rfl) (by kernel_rfl) (fun _ _ _ h => h) (by kernel_rfl) (Ext.stable _) hCD (yieldsU_val rfl (fun u hu => by have c := (BX.out.below hu BX.out.lt).cell 2; simp at c; go_simp)) ?_
  simp only [Act.put, List.setIfInBounds_toArray, List.set_cons_succ, List.set_cons_zero]
  refine anyU_one 3 2 _ rfl rfl (by kernel_rfl) ?_
  intro u hu
  have MK1 := MK u
  go_wp2_with fail
  change ∃ C' : World → Prop, _ ∧ _ ∧ _ ∧ anyU _ _ _ _ _ _ 2 _ _ _
  have hb1 : Below u.heap.size u (u.alloc (.cells ZL.toArray 35)) := bel_alloc1 u _
  have Y1 := Lib.hid (Blk.new u ZL.toArray 35)
  have E1 := Lib.hid (Ext.trans hu hb1)
  clear MK1
  generalize World.alloc u _ = u1 at Y1 E1 hb1 ⊢
  have lt1 : w.heap.size + 1 < u.heap.size := Nat.lt_of_lt_of_le hW hu.size
  generalize u.heap.size = bb at Y1 lt1 ⊢
  clear hu hb1
  refine anchorF (fun y => Ext W y ∧ Blk y bb ZL.toArray 35) (fun y hy => hy.1) ((Ext.stable W).and (fun y z h k => h.below k h.lt)) ⟨E1.out, Y1.out⟩ ?_
  (try simp only [Act.put])
  clear E1 Y1
  refine anyU_tail 6 [7] rfl rfl (by decide) (by kernel_rfl) ?_
  intro u2 hu2
  simp only [Act.put, List.filterMap_cons, List.filterMap_nil, List.getElem?_cons_succ, List.getElem?_cons_zero]
  have V2 := Lib.hid (BX.out.below hu2.1 BX.out.lt)
  have Z2 := Lib.hid (ZX.out.below hu2.1 ZX.out.lt)
  have B2 := Lib.hid (EW.out.trans (Below.mono hu2.1 EW.out.size))
  have R2 := Lib.hid hu2.2
  clear hu2 BX ZX EW
  obtain ⟨d0, d1, d2, d3, ld⟩ := blk4_facts Z2.out
  have f0 := Z2.out.frozen 0; have f1 := Z2.out.frozen 1; have f2 := Z2.out.frozen 2; have f3 := Z2.out.frozen 3
  go_upto_region 5 with fail
  have Z3' := ((((Z2.out.set 0 (.slice (some ⟨bb, 0, none⟩) ns ns)).set 1 (.slice none 0 0)).set 2 (.int .i64 (lf : Int))).set 3 (.bool false))
  have V3' := ((((V2.out.other (b' := w.heap.size + 1) 0 (.slice (some ⟨bb, 0, none⟩) ns ns) (by omega)).other (b' := w.heap.size + 1) 1 (.slice none 0 0) (by omega)).other (b' := w.heap.size + 1) 2 (.int .i64 (lf : Int)) (by omega)).other (b' := w.heap.size + 1) 3 (.bool false) (by omega))
  have R3' := ((((R2.out.other (b' := w.heap.size + 1) 0 (.slice (some ⟨bb, 0, none⟩) ns ns) (by omega)).other (b' := w.heap.size + 1) 1 (.slice none 0 0) (by omega)).other (b' := w.heap.size + 1) 2 (.int .i64 (lf : Int)) (by omega)).other (b' := w.heap.size + 1) 3 (.bool false) (by omega))
  have B3' := ((((B2.out.setCell (p := ⟨w.heap.size + 1, 0, none⟩) (by show w.heap.size ≤ w.heap.size + 1; omega) (.slice (some ⟨bb, 0, none⟩) ns ns)).setCell (p := ⟨w.heap.size + 1, 1, none⟩) (by show w.heap.size ≤ w.heap.size + 1; omega) (.slice none 0 0)).setCell (p := ⟨w.heap.size + 1, 2, none⟩) (by show w.heap.size ≤ w.heap.size + 1; omega) (.int .i64 (lf : Int))).setCell (p := ⟨w.heap.size + 1, 3, none⟩) (by show w.heap.size ≤ w.heap.size + 1; omega) (.bool false))
  generalize (((u2.setCell ⟨w.heap.size + 1, 0, none⟩ (.slice (some ⟨bb, 0, none⟩) ns ns)).setCell ⟨w.heap.size + 1, 1, none⟩ (.slice none 0 0)).setCell ⟨w.heap.size + 1, 2, none⟩ (.int .i64 (lf : Int))).setCell ⟨w.heap.size + 1, 3, none⟩ (.bool false) = u3 at Z3' V3' R3' B3' ⊢
  have Z3 := Lib.hid (show Blk u3 (w.heap.size + 1) (dskC (some ⟨bb, 0, none⟩) ns ns none 0 0 (lf : Int) false) 25 from Z3')
  have V3 := Lib.hid V3'
  have R3 := Lib.hid R3'
  have B3 := Lib.hid B3'
  clear Z3' V3' R3' B3' V2 Z2 R2 B2 d0 d1 d2 d3 ld f0 f1 f2 f3
  obtain ⟨c0, c1, c2, c3, lb⟩ := blk4_facts V3.out
  obtain ⟨d0, d1, d2, d3, ld⟩ := blk4_facts Z3.out
  have D3 := Lib.hid (hz.out.1.below B3.out)
  go_wp2_with (refine wpList_copy_splice rfl (.tmp 22) (.tmp 24) 22 22 rfl 35 Try.underlying22 hsz (some ⟨bb, 0, none⟩) ps ns ns ns cs rfl rfl bb 0 ZL 35 ?c1 CS ?c2 ?c3 ?c4 ?c5 bb u3 ?c6 (Nat.le_refl _) ?_)
  case c1 => exact R3.out
  case c2 => rw [lC.out]; show ns = min ns ns; omega
  case c3 => exact fun h0 => (sC.out _ D3.out h0)
  case c4 => rw [lC.out, lZ.out]; omega
  case c5 => exact oC.out
  case c6 => exact Below.refl _ _
  intro w4 H4 hb4
  rw [splice_all _ _ (by rw [lC.out, lZ.out]), ← eC.out] at H4
  have V4 := Lib.hid (V3.out.below hb4 (by omega))
  have Z4 := Lib.hid (Z3.out.below hb4 (by omega))
  have R4 := Lib.hid (show RowsIn w4 bb rs from Blk.rows (t := 35) H4.out)
  have B4 := Lib.hid (B3.out.trans (hb4.mono (by omega)))
  clear H4 hb4 V3 Z3 R3 B3 D3 c0 c1 c2 c3 lb d0 d1 d2 d3 ld
  obtain ⟨c0, c1, c2, c3, lb⟩ := blk4_facts V4.out
  obtain ⟨d0, d1, d2, d3, ld⟩ := blk4_facts Z4.out
  have f2 := Z4.out.frozen 2; have f3 := Z4.out.frozen 3
  have R5 := R4; have Z5 := Z4; have V5 := V4; have B5 := B4
  clear R4 Z4 V4 B4
  go_wp2_with fail
  go_loopw [47] (fun i wr => ∃ k : Nat, k ≤ 0 ∧ i = .int .i64 k ∧ Hid (RowsIn wr bb (setRows rs (ws.take k))) ∧ Hid (Blk wr (w.heap.size + 1) (dskC (some ⟨bb, 0, none⟩) ns ns none 0 0 (lf : Int) false) 25) ∧ Hid (Blk wr w.heap.size (dskC ps ns cs none 0 0 (lf : Int) false) 25) ∧ Hid (Below w.heap.size w wr)) (fun i _ => 0 - (intOf i).toNat)
  case atStart => exact ⟨0, by omega, rfl, Lib.hid (by rw [List.take_zero]; exact R5.out), Z5, V5, B5⟩
  case round =>
    obtain ⟨k, hk, rfl, HR, HZ, HVx, HB⟩ := hrel
    clear R5 Z5 V5 B5 c0 c1 c2 c3 lb d0 d1 d2 d3 ld f2 f3
    obtain rfl : k = 0 := by omega
    obtain ⟨c0, c1, c2, c3, lb⟩ := blk4_facts HVx.out
    obtain ⟨d0, d1, d2, d3, ld⟩ := blk4_facts HZ.out
    have f0 := HZ.out.frozen 0; have f1 := HZ.out.frozen 1; have f2 := HZ.out.frozen 2; have f3 := HZ.out.frozen 3
    go_wp2_with fail
    refine bodyPost_ret (v := .tuple #[.agg (dskC (some ⟨bb, 0, none⟩) ns ns none 0 0 (lf : Int) false), .int .i64 0]) ?_ rfl ⟨?_, ?_⟩
    · rw [results_cell_tmp rfl]; go_simp
    · have hw0 : ∀ r ∈ setRows rs ws, RwOk w r ∧ r.m = 128 := setRows_all (q := fun r => RwOk w r ∧ r.m = 128) ws rs (fun r hr => ⟨hz.out.1.2.2.1 r hr, HV.out.2.1 r hr⟩) (fun x hx => ⟨(hz.out.2.1.2.2.1 x hx).2, (HV.out.2.2.1 x hx).2⟩)
      have ht : ws.take 0 = ws := List.take_of_length_le (by have := HNp.out; omega)
      have hR := HR.out
      rw [ht] at hR
      have hs : stopB (lf : Int) ws.length = false := by unfold stopB; have := HNp.out; simp; try omega
      refine isSyn (rows := setRows rs ws) ?_ (by rw [setRows_len, HNs.out]) hns.1 (Nat.le_refl _) (by omega) (fun r hr => (hw0 r hr).1.below ?_) (fun r hr => (hw0 r hr).2) ?_ ?_ hs (by rw [hs]; rfl) (by omega) (fun b _ q1 q2 => setRows_all (q := fun r => SepR r b) ws rs q1 q2)
      · (iterate 5 (refine RowsIn.other ?_ (by omega))); exact hR
      · (iterate 5 (refine Below.setCell ?_ (by simp) _)); exact HB.out
      · unfold synB; rw [hs, setRows_map]; rfl
      · unfold synL; rw [hs]; have := HNp.out; simp; try omega
    · (iterate 5 (refine Below.setCell ?_ (by simp) _)); exact HB.out
end Go.Proofs.Ytackklbifppfeaa
