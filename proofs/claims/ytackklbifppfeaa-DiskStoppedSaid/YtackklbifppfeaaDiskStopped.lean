/- For every disk, after a stop nothing but Restart changes it, and Restart keeps the sectors and loses what was pending. No condition. -/
import Derived.Test.YtackklbifppfeaaDskFrm
import Derived.Deep.DeepCutAuto
namespace Go.Proofs.Ytackklbifppfeaa
open Go.ChangeShapes Go.WideShapes Go.ChangeAt Go.RowKit Go.WideElems
set_option linter.unusedVariables false
set_option linter.unusedSimpArgs false

set_option maxRecDepth 100000 in
set_option maxHeartbeats 4000000 in
theorem diskStopped_walk (d : Dk) (k l : Int) (r : Rw) (w : World) (D1 : Hid (DkOk w d)) (hr : Hid (RwOk w r)) : Calls Try.prog 9 #[.agg d.c, .int .i64 k, .int .i64 l, r.v] w fun e w' => e = .returned (.bool true) ∧ Below w.heap.size w w' := by
  go_enter Try.func9, Try.ntmps9
  have BB := Lib.hid (Below.refl w.heap.size w)
  obtain ⟨pb, mb, cb, bs⟩ := r
  have SR := Lib.hid (sepR_new hr.out (Nat.le_refl _))
  have RB := Lib.hid hr.out.1
  have HBY := Lib.hid hr.out.2.1
  have hm1 := hr.out.2.2.1
  have hm2 := hr.out.2.2.2.1
  have hm3 := hr.out.2.2.2.2
  dsimp only at RB HBY hm1 hm2 hm3
  clear hr
  have S4 := Lib.hid (D1.out.sep (Nat.le_refl _))
  have hb := bel_alloc1 w (.cells d.c 25)
  replace D1 := Lib.hid (D1.out.below hb)
  replace RB := Lib.hid (RB.out.below hb)
  replace BB := Lib.hid (BB.out.trans ((hb).mono BB.out.size))
  clear hb
  have V4 := Lib.hid (Blk.new w d.c 25)
  go_upto_region 1 with fail
  generalize World.alloc w _ = W1 at BB D1 RB V4 ⊢
  obtain ⟨nV4, hn4⟩ : ∃ n, w.heap.size = n := ⟨_, rfl⟩
  rw [hn4] at V4 S4 SR ⊢
  have hw4 : w.heap.size ≤ nV4 := by omega
  clear hn4
  go_wp2_with fail
  refine (sane_any _).mono ?_
  rintro e W2 ⟨rfl, hb⟩
  replace D1 := Lib.hid (D1.out.below hb)
  replace RB := Lib.hid (RB.out.below hb)
  replace V4 := Lib.hid (V4.out.below hb V4.out.lt)
  replace BB := Lib.hid (BB.out.trans ((hb).mono BB.out.size))
  clear hb
  have cV40 := V4.out.cell 0
  have cV41 := V4.out.cell 1
  have cV42 := V4.out.cell 2
  have cV43 := V4.out.cell 3
  have lV4 := V4.out.lt
  go_wp2_with fail
  refine (few_L d _ D1).mono ?_
  rintro e W3 ⟨⟨q, rfl⟩, hb⟩
  replace D1 := Lib.hid (D1.out.below hb)
  replace RB := Lib.hid (RB.out.below hb)
  replace V4 := Lib.hid (V4.out.below hb V4.out.lt)
  replace BB := Lib.hid (BB.out.trans ((hb).mono BB.out.size))
  clear hb
  clear cV40 cV41 cV42 cV43 lV4
  cases q with
  | false =>
    go_wp2_with fail
    go_ret
    exact ⟨rfl, BB.out⟩
  | true =>
    by_cases hb : 1000 < mb
    case pos =>
      go_wp2_with fail
      go_ret
      exact ⟨rfl, BB.out⟩
    case neg =>
      have cV40 := V4.out.cell 0
      have cV41 := V4.out.cell 1
      have cV42 := V4.out.cell 2
      have cV43 := V4.out.cell 3
      have lV4 := V4.out.lt
      go_wp2_with fail
      refine (restart_L d _ D1).mono ?_
      rintro e W4 ⟨rfl, hb⟩
      replace D1 := Lib.hid (D1.out.below hb)
      replace RB := Lib.hid (RB.out.below hb)
      replace V4 := Lib.hid (V4.out.below hb V4.out.lt)
      replace BB := Lib.hid (BB.out.trans ((hb).mono BB.out.size))
      clear hb
      clear cV40 cV41 cV42 cV43 lV4
      have hne := Nat.ne_of_gt V4.out.lt
      have hb := bel_alloc1 W4 (.cells (dskC d.ps d.ns d.cs none 0 0 (-1) false) 25)
      replace D1 := Lib.hid (D1.out.below hb)
      replace RB := Lib.hid (RB.out.below hb)
      replace V4 := Lib.hid (V4.out.below hb V4.out.lt)
      replace BB := Lib.hid (BB.out.trans ((hb).mono BB.out.size))
      clear hb
      have V9 := Lib.hid (Blk.new W4 (dskC d.ps d.ns d.cs none 0 0 (-1) false) 25)
      go_upto_region 6 with fail
      generalize World.alloc W4 _ = W5 at BB D1 RB V4 V9 ⊢
      generalize W4.heap.size = nV9 at V9 hne ⊢
      have cV90 := V9.out.cell 0
      have cV91 := V9.out.cell 1
      have cV92 := V9.out.cell 2
      have cV93 := V9.out.cell 3
      have lV9 := V9.out.lt
      go_wp2_with fail
      refine (restart_any d.ps d.ns d.cs none 0 0 (-1) false d.rs [] _ (Lib.hid D1.out.re.1)).mono ?_
      rintro e W6 ⟨rfl, hb⟩
      replace D1 := Lib.hid (D1.out.below hb)
      replace RB := Lib.hid (RB.out.below hb)
      replace V4 := Lib.hid (V4.out.below hb V4.out.lt)
      replace V9 := Lib.hid (V9.out.below hb V9.out.lt)
      replace BB := Lib.hid (BB.out.trans ((hb).mono BB.out.size))
      clear hb
      clear cV90 cV91 cV92 cV93 lV9
      have hb := bel_alloc1 W6 (.cells (dskC d.ps d.ns d.cs none 0 0 (-1) false) 25)
      replace D1 := Lib.hid (D1.out.below hb)
      replace RB := Lib.hid (RB.out.below hb)
      replace V4 := Lib.hid (V4.out.below hb V4.out.lt)
      replace V9 := Lib.hid (V9.out.below hb V9.out.lt)
      replace BB := Lib.hid (BB.out.trans ((hb).mono BB.out.size))
      clear hb
      have V10 := Lib.hid (Blk.new W6 (dskC d.ps d.ns d.cs none 0 0 (-1) false) 25)
      go_upto_region 7 with fail
      generalize World.alloc W6 _ = W7 at BB D1 RB V4 V9 V10 ⊢
      generalize W6.heap.size = nV10 at V10 ⊢
      have cV40 := V4.out.cell 0
      have cV41 := V4.out.cell 1
      have cV42 := V4.out.cell 2
      have cV43 := V4.out.cell 3
      have lV4 := V4.out.lt
      have cV90 := V9.out.cell 0
      have cV91 := V9.out.cell 1
      have cV92 := V9.out.cell 2
      have cV93 := V9.out.cell 3
      have lV9 := V9.out.lt
      have cV100 := V10.out.cell 0
      have cV101 := V10.out.cell 1
      have cV102 := V10.out.cell 2
      have cV103 := V10.out.cell 3
      have lV10 := V10.out.lt
      go_wp2_with fail
      refine (same_L d.re d.re _ (Lib.hid D1.out.re) (Lib.hid D1.out.re) (Lib.hid (Alike.rfl' _))).mono ?_
      rintro e W8 ⟨rfl, hb⟩
      replace D1 := Lib.hid (D1.out.below hb)
      replace RB := Lib.hid (RB.out.below hb)
      replace V4 := Lib.hid (V4.out.below hb V4.out.lt)
      replace V9 := Lib.hid (V9.out.below hb V9.out.lt)
      replace V10 := Lib.hid (V10.out.below hb V10.out.lt)
      replace BB := Lib.hid (BB.out.trans ((hb).mono BB.out.size))
      clear hb
      clear cV40 cV41 cV42 cV43 lV4
      clear cV90 cV91 cV92 cV93 lV9
      clear cV100 cV101 cV102 cV103 lV10
      clear V10
      have cV40 := V4.out.cell 0
      have cV41 := V4.out.cell 1
      have cV42 := V4.out.cell 2
      have cV43 := V4.out.cell 3
      have lV4 := V4.out.lt
      have cV90 := V9.out.cell 0
      have cV91 := V9.out.cell 1
      have cV92 := V9.out.cell 2
      have cV93 := V9.out.cell 3
      have lV9 := V9.out.lt
      have hml := D1.out.1.1.2.1
      have HLS := Lib.hid D1.out.lens.1
      go_wp2_with fail
      clear cV40 cV41 cV42 cV43 lV4
      clear cV90 cV91 cV92 cV93 lV9
      go_loopw [11] (fun i wr => ∃ j : Nat, j ≤ d.ns ∧ i = .int .i64 j ∧ Hid (Blk wr nV4 d.c 25) ∧ Hid (Blk wr nV9 (dskC d.ps d.ns d.cs none 0 0 (-1) false) 25) ∧ Hid (DkOk wr d) ∧ Hid (SrcW wr pb mb cb bs) ∧ Hid (Below w.heap.size w wr)) (fun i _ => d.ns - (intOf i).toNat)
      case atStart => exact ⟨0, by omega, rfl, V4, V9, D1, RB, BB⟩
      case round =>
        obtain ⟨j, hj, rfl, V4x, V9x, D1x, RBx, BBx⟩ := hrel
        clear V4 V9 D1 RB BB
        by_cases hlt : j < d.ns
        case pos =>
          have c40 := V4x.out.cell 0
          have c90 := V9x.out.cell 0
          simp at c40 c90
          have l4 := V4x.out.lt
          have l9 := V9x.out.lt
          go_upto_region 12 with fail
          refine wp_region_any (by kernel_rfl) ?_
          change wpAny _ _ _ _ _ _ _ (World.drew _)
          generalize hWD : World.drew _ = W
          have V4W := Lib.hid (show Blk W nV4 d.c 25 by rw [← hWD]; exact V4x.out)
          have V9W := Lib.hid (show Blk W nV9 (dskC d.ps d.ns d.cs none 0 0 (-1) false) 25 by rw [← hWD]; exact V9x.out)
          have DW := Lib.hid (show DkOk W d by rw [← hWD]; exact D1x.out.below ((Below.refl _ _).drew))
          have RW := Lib.hid (show SrcW W pb mb cb bs by rw [← hWD]; exact RBx.out.below ((Below.refl _ _).drew))
          have BW := Lib.hid (show Below w.heap.size w W by rw [← hWD]; exact BBx.out.drew)
          clear hWD V4x V9x D1x RBx BBx c40 c90 l4 l9
          obtain ⟨bq, oq, hq1, hq2, hq3, hq4⟩ := SecsV.at DW.out.1.1 hlt
          obtain ⟨⟨rp, rm, rc, rbs⟩, hx⟩ : ∃ x, d.rs.getD j rw0 = x := ⟨_, rfl⟩
          rw [hx] at hq3 hq4
          dsimp only [Rw.v] at hq3
          clear hx
          have HQ3 := Lib.hid (fun u (hu : Ext W u) => (Below.cell hu (p := ⟨bq, oq + j, none⟩) hq2).trans hq3)
          have HSR := Lib.hid (fun u (hu : Ext W u) => conv_srcW (SrcW.below hq4.1 hu))
          have C0 := Lib.hid (fun u (hu : Ext W u) => show u.cell? ⟨nV4, 0, none⟩ = some (.slice (some ⟨bq, oq, none⟩) d.ns d.cs) from by have := (V4W.out.below hu V4W.out.lt).cell 0; rw [← hq1]; exact this)
          have C1 := Lib.hid (fun u (hu : Ext W u) => show u.cell? ⟨nV9, 0, none⟩ = some (.slice (some ⟨bq, oq, none⟩) d.ns d.cs) from by have := (V9W.out.below hu V9W.out.lt).cell 0; rw [← hq1]; exact this)
          clear hq1 hq3 hq4
          have hCD : ∀ u, Ext W u → Ext W u := fun u hu => hu
          refine region_U (D := Ext W) (Ext W) [12] (Ext.refl W) ?_
          refine anyU_takeD (i := 0) (v := .pointer (some ⟨nV9, 0, none⟩)) 69 rfl rfl (by kernel_rfl) (by kernel_rfl) (by kernel_rfl) (fun _ _ _ h => h) (by kernel_rfl) (Ext.stable _) hCD (yieldsU_val rfl (fun u hu => by go_simp)) ?_
          refine anyU_takeD (i := 1) (v := .slice (some ⟨bq, oq, none⟩) d.ns d.cs) 70 rfl rfl (by kernel_rfl) (by kernel_rfl) (by kernel_rfl) (fun _ _ _ h => h) (by kernel_rfl) (Ext.stable _) hCD (yieldsU_val rfl (fun u hu => by have c := C1.out u hu; go_simp)) ?_
          refine anyU_takeD (i := 2) (v := .int .i64 (j : Int)) 71 rfl rfl (by kernel_rfl) (by kernel_rfl) (by kernel_rfl) (fun _ _ _ h => h) (by kernel_rfl) (Ext.stable _) hCD (yieldsU_val rfl (fun u hu => by go_simp)) ?_
          refine anyU_takeD (i := 3) (v := .pointer (some ⟨bq, oq + j, none⟩)) 72 rfl rfl (by kernel_rfl) (by kernel_rfl) (by kernel_rfl) (fun _ _ _ h => h) (by kernel_rfl) (Ext.stable _) hCD (yieldsU_val rfl (fun u hu => by go_simp)) ?_
          refine anyU_takeD (i := 4) (v := .slice rp rm rc) 73 rfl rfl (by kernel_rfl) (by kernel_rfl) (by kernel_rfl) (fun _ _ _ h => h) (by kernel_rfl) (Ext.stable _) hCD (yieldsU_val rfl (fun u hu => by have c := HQ3.out u hu; go_simp)) ?_
          refine anyU_takeD (i := 5) (v := .string (strB rbs)) 74 rfl rfl (by kernel_rfl) (by kernel_rfl) (by kernel_rfl) (fun _ _ _ h => h) (by kernel_rfl) (Ext.stable _) hCD (yieldsU_val rfl (fun u hu => by have c := HSR.out u hu; go_simp)) ?_
          simp only [Act.put, List.setIfInBounds_toArray, List.set_cons_succ, List.set_cons_zero]
          refine anyU_takeD (i := 6) (v := .pointer (some ⟨nV4, 0, none⟩)) 75 rfl rfl (by kernel_rfl) (by kernel_rfl) (by kernel_rfl) (fun _ _ _ h => h) (by kernel_rfl) (Ext.stable _) hCD (yieldsU_val rfl (fun u hu => by go_simp)) ?_
          refine anyU_takeD (i := 7) (v := .slice (some ⟨bq, oq, none⟩) d.ns d.cs) 76 rfl rfl (by kernel_rfl) (by kernel_rfl) (by kernel_rfl) (fun _ _ _ h => h) (by kernel_rfl) (Ext.stable _) hCD (yieldsU_val rfl (fun u hu => by have c := C0.out u hu; go_simp)) ?_
          refine anyU_takeD (i := 8) (v := .int .i64 (j : Int)) 77 rfl rfl (by kernel_rfl) (by kernel_rfl) (by kernel_rfl) (fun _ _ _ h => h) (by kernel_rfl) (Ext.stable _) hCD (yieldsU_val rfl (fun u hu => by go_simp)) ?_
          refine anyU_takeD (i := 9) (v := .pointer (some ⟨bq, oq + j, none⟩)) 78 rfl rfl (by kernel_rfl) (by kernel_rfl) (by kernel_rfl) (fun _ _ _ h => h) (by kernel_rfl) (Ext.stable _) hCD (yieldsU_val rfl (fun u hu => by go_simp)) ?_
          refine anyU_takeD (i := 10) (v := .slice rp rm rc) 79 rfl rfl (by kernel_rfl) (by kernel_rfl) (by kernel_rfl) (fun _ _ _ h => h) (by kernel_rfl) (Ext.stable _) hCD (yieldsU_val rfl (fun u hu => by have c := HQ3.out u hu; go_simp)) ?_
          refine anyU_takeD (i := 11) (v := .string (strB rbs)) 80 rfl rfl (by kernel_rfl) (by kernel_rfl) (by kernel_rfl) (fun _ _ _ h => h) (by kernel_rfl) (Ext.stable _) hCD (yieldsU_val rfl (fun u hu => by have c := HSR.out u hu; go_simp)) ?_
          simp only [Act.put, List.setIfInBounds_toArray, List.set_cons_succ, List.set_cons_zero]
          refine anyU_tail 12 [] rfl rfl (by decide) (by kernel_rfl) ?_
          intro u2 hu2
          simp only [Act.put, List.filterMap_cons, List.filterMap_nil, List.getElem?_cons_succ, List.getElem?_cons_zero]
          have V4y := Lib.hid (V4W.out.below hu2 V4W.out.lt)
          have V9y := Lib.hid (V9W.out.below hu2 V9W.out.lt)
          have Dy := Lib.hid (DW.out.below hu2)
          have Ry := Lib.hid (RW.out.below hu2)
          have By := Lib.hid (BW.out.trans (Below.mono hu2 BW.out.size))
          clear hu2
          go_wp2_with fail
          refine ⟨⟨j + 1, by omega, by go_num, V4y, V9y, Dy, Ry, By⟩, ?_⟩
          simp only [intOf]; omega
        case neg =>
          obtain rfl : j = d.ns := by omega
          obtain ⟨c40, c41, c42, c43, l4⟩ := blk4_facts V4x.out
          have f43 := V4x.out.frozen 3
          go_wp2_with fail
          have XV := V4x.out.set 3 (.bool true)
          have XD := D1x.out.set (o := 3) (v := .bool true) S4.out
          have XR := rwOk_set (b := nV4) (o := 3) (v := .bool true) (r := ⟨pb, mb, cb, bs⟩) ⟨RBx.out, HBY.out, hm1, hm2, hm3⟩ SR.out
          have XB := BBx.out.setCell (p := ⟨nV4, 3, none⟩) hw4 (.bool true)
          generalize wr.setCell ⟨nV4, 3, none⟩ (.bool true) = W40 at XV XD XR XB ⊢
          clear V4x V9x D1x RBx BBx c40 c41 c42 c43 f43 l4
          obtain ⟨a0, a1, a2, a3, a4, a5, a6, a7, a8, a9⟩ := d
          have V4 := Lib.hid (show Blk W40 nV4 (dskC a0 a1 a2 a3 a4 a5 a6 true) 25 from XV)
          have D1 := Lib.hid (show DkOk W40 ⟨a0, a1, a2, a3, a4, a5, a6, true, a8, a9⟩ from XD)
          have RB := Lib.hid XR.1
          have BB := Lib.hid XB
          clear XV XD XR XB
          have hrun : runB a6 true a8 a9 = false := by unfold runB; simp
          have HRN := Lib.hid hrun
          clear hrun
          refine (read_no k a0 a1 a2 a3 a4 a5 a6 true a8 a9 _ (Lib.hid D1.out.1) (Lib.hid (by rw [HRN.out]; rfl))).mono ?_
          rintro e W41 ⟨rfl, hb⟩
          replace V4 := Lib.hid (V4.out.below hb V4.out.lt)
          replace D1 := Lib.hid (D1.out.below hb)
          replace RB := Lib.hid (RB.out.below hb)
          replace BB := Lib.hid (BB.out.trans ((hb).mono BB.out.size))
          clear hb
          have cV40 := V4.out.cell 0
          have cV41 := V4.out.cell 1
          have cV42 := V4.out.cell 2
          have cV43 := V4.out.cell 3
          have lV4 := V4.out.lt
          go_wp2_with fail
          refine (write_no k pb mb cb a0 a1 a2 a3 a4 a5 a6 true a8 a9 _ (Lib.hid D1.out.1) (Lib.hid (by rw [HRN.out]; rfl))).mono ?_
          rintro e W42 ⟨rfl, hb⟩
          replace V4 := Lib.hid (V4.out.below hb V4.out.lt)
          replace D1 := Lib.hid (D1.out.below hb)
          replace RB := Lib.hid (RB.out.below hb)
          replace BB := Lib.hid (BB.out.trans ((hb).mono BB.out.size))
          clear hb
          clear cV40 cV41 cV42 cV43 lV4
          have hb := bel_alloc1 W42 (.cells #[.slice none 0 0, .slice none 0 0, .int .i64 0, .bool false] 25)
          replace V4 := Lib.hid (V4.out.below hb V4.out.lt)
          replace D1 := Lib.hid (D1.out.below hb)
          replace RB := Lib.hid (RB.out.below hb)
          replace BB := Lib.hid (BB.out.trans ((hb).mono BB.out.size))
          clear hb
          go_upto_region 17 with fail
          generalize World.alloc W42 _ = W43 at BB V4 D1 RB ⊢
          have cV40 := V4.out.cell 0
          have cV41 := V4.out.cell 1
          have cV42 := V4.out.cell 2
          have cV43 := V4.out.cell 3
          have lV4 := V4.out.lt
          go_wp2_with fail
          refine (sync_no a0 a1 a2 a3 a4 a5 a6 true a8 a9 _ (Lib.hid D1.out.1) HRN).mono ?_
          rintro e W44 ⟨rfl, hb⟩
          replace V4 := Lib.hid (V4.out.below hb V4.out.lt)
          replace D1 := Lib.hid (D1.out.below hb)
          replace RB := Lib.hid (RB.out.below hb)
          replace BB := Lib.hid (BB.out.trans ((hb).mono BB.out.size))
          clear hb
          clear cV40 cV41 cV42 cV43 lV4
          have hb := bel_alloc1 W44 (.cells #[.slice none 0 0, .slice none 0 0, .int .i64 0, .bool false] 25)
          replace V4 := Lib.hid (V4.out.below hb V4.out.lt)
          replace D1 := Lib.hid (D1.out.below hb)
          replace RB := Lib.hid (RB.out.below hb)
          replace BB := Lib.hid (BB.out.trans ((hb).mono BB.out.size))
          clear hb
          go_upto_region 18 with fail
          generalize World.alloc W44 _ = W45 at BB V4 D1 RB ⊢
          have cV40 := V4.out.cell 0
          have cV41 := V4.out.cell 1
          have cV42 := V4.out.cell 2
          have cV43 := V4.out.cell 3
          have lV4 := V4.out.lt
          go_wp2_with fail
          refine (stop_any l a0 a1 a2 a3 a4 a5 a6 true a8 a9 _ (Lib.hid D1.out.1)).mono ?_
          rintro e W46 ⟨rfl, hb⟩
          replace V4 := Lib.hid (V4.out.below hb V4.out.lt)
          replace D1 := Lib.hid (D1.out.below hb)
          replace RB := Lib.hid (RB.out.below hb)
          replace BB := Lib.hid (BB.out.trans ((hb).mono BB.out.size))
          clear hb
          rw [HRN.out]
          have hst : stopR a0 a1 a2 a3 a4 a5 l true false = .tuple #[.agg #[.slice none 0 0, .slice none 0 0, .int .i64 0, .bool false], .int .i64 40] := rfl
          rw [hst]
          clear hst
          clear cV40 cV41 cV42 cV43 lV4
          have hb := bel_alloc1 W46 (.cells #[.slice none 0 0, .slice none 0 0, .int .i64 0, .bool false] 25)
          replace V4 := Lib.hid (V4.out.below hb V4.out.lt)
          replace D1 := Lib.hid (D1.out.below hb)
          replace RB := Lib.hid (RB.out.below hb)
          replace BB := Lib.hid (BB.out.trans ((hb).mono BB.out.size))
          clear hb
          go_upto_region 19 with fail
          generalize World.alloc W46 _ = W47 at BB V4 D1 RB ⊢
          go_wp2_with fail
          go_ret
          exact ⟨rfl, BB.out⟩

namespace diskStopped
theorem readable : ∀ t ∈ Try.f9.params.toList, Try.prog.readableRec t = true ∧ t < Try.prog.types.size := by
  rw [Try.params9]
  intro t ht
  simp only [List.mem_cons, List.not_mem_nil, or_false] at ht
  rcases ht with rfl | rfl | rfl | rfl
  all_goals exact ⟨by kernel_rfl, by decide +kernel⟩

set_option maxRecDepth 100000 in
theorem lifted (os : Os) (started : os.Started) (H : Type) (enc : TypeId × Value → H) :
    ReturnsInHanded {} Try.checked os 9 .any (Rows.diskStoppedSpec.pre6 enc Try.prog Try.f9 Rows.diskStoppedRow.domain false) (Rows.diskStoppedSpec.post enc Try.prog Try.f9 false true false false) := by
  refine returnsInHanded_of_change (C := Try.checked) own_knob started (by kernel_rfl) Try.func9
    (ChangeSpec.witness6 (enc := enc) (C := Try.checked) false ⟨#[], #[.agg #[.slice none 0 0, .slice none 0 0, .int .i64 0, .bool false], .int .i64 0, .int .i64 0, .slice none 0 0], []⟩ 8 (by kernel_rfl) (by kernel_rfl) (by kernel_rfl) (by kernel_rfl)) ?_
  intro W base args ds gs before hval0 hW hcnd _
  have hval : ∀ (j : Nat) t v, Try.f9.params[j]? = some t → args[j]? = some v → Value.okWide Try.prog W .any base t v := hval0
  have hW' := hW
  obtain ⟨p, q, hA0, hV, rfl, hfz, hnd⟩ := hW
  have hA : DataW.TrodAll enc Try.prog W 0 (fun _ => true) true Try.f9.params.toList args.toList ds p := hA0
  rw [Try.params9] at hA hval
  obtain ⟨v0, vs0, d0, ds0, p0, q0, hargs, rfl, rfl, h0, r0⟩ := trodAll_cons hA
  obtain ⟨v1, vs1, d1, ds1, p1, q1, rfl, rfl, rfl, h1, r1⟩ := trodAll_cons r0
  obtain ⟨v2, vs2, d2, ds2, p2, q2, rfl, rfl, rfl, h2, r2⟩ := trodAll_cons r1
  obtain ⟨v3, vs3, d3, ds3, p3, q3, rfl, rfl, rfl, h3, r3⟩ := trodAll_cons r2
  obtain ⟨rfl, rfl, rfl⟩ := trodAll_nil r3
  obtain rfl : args = #[v0, v1, v2, v3] := by cases args; simp_all
  obtain ⟨rfl, rfl⟩ := trodVars_none hV
  obtain ⟨k0, rfl, hk0⟩ := open_dk (hval 0 25 v0 rfl rfl) h0
  obtain ⟨a1, rfl, rfl, rfl, w1⟩ := open_int Try.underlying3 (hval 1 3 v1 rfl rfl) h1
  obtain ⟨a2, rfl, rfl, rfl, w2⟩ := open_int Try.underlying3 (hval 2 3 v2 rfl rfl) h2
  obtain ⟨k3, rfl, hk3⟩ := open_row (hval 3 35 v3 rfl rfl) h3
  clear hA0 hval0
  refine (diskStopped_walk k0 a1 a2 k3 W (Lib.hid hk0) (Lib.hid hk3)).mono fun e W' ⟨he, hb⟩ => ?_
  subst he
  exact ⟨_, rfl, law_post laid_out readable rfl rfl Try.underlying4 hW' rfl rfl rfl hb⟩

theorem over : Rows.diskStoppedRow.holds Try.pinned (OpenSpec.ofChange Rows.diskStoppedSpec) :=
  OpenClaim.holds_of_wide 9 Try.f9 rfl rfl rfl rfl rfl rfl rfl ⟨rfl, rfl, rfl, rfl, rfl⟩ rfl rfl rfl rfl rfl (by kernel_rfl) Try.func9 (by kernel_rfl)
    (of_decide_eq_true (by kernel_rfl)) (by unfold Func.isWrapper; first | (rw [if_pos (by decide +kernel)]; kernel_rfl) | (rw [if_neg (by decide +kernel)]; exact ⟨rfl, rfl⟩))
    (fun os started H enc _ => lifted os started H enc)

/-- the statement -/
theorem proved : Rows.DiskStoppedSaid := over
end diskStopped
end Go.Proofs.Ytackklbifppfeaa
