/- For every valid disk that has not stopped, and two writes, each sector is read as it was written last, others as before, and so after a sync that does not stop. No condition. -/
import Derived.Test.YtackklbifppfeaaDskFrm
import Derived.Deep.DeepCutAuto
namespace Go.Proofs.Ytackklbifppfeaa
open Go.ChangeShapes Go.WideShapes Go.ChangeAt Go.RowKit Go.WideElems
set_option linter.unusedVariables false
set_option linter.unusedSimpArgs false

theorem readB_setB (k : Nat) : ∀ (ws : List Wt) (bs : List (List Int)) (r : Rw), k < bs.length → bs.getD k [] = r.bs → (∀ x ∈ ws, 0 ≤ x.pos) → (setB bs ws).getD k [] = (readR k r ws).bs
  | [], _, _, _, h, _ => h
  | x :: ws, bs, r, hk, h, hp => by
    show (setB (bs.set x.pos.toNat x.row.bs) ws).getD k [] = (readR k (if x.pos = (k : Int) then x.row else r) ws).bs
    have h0 := hp x (by simp)
    refine readB_setB k ws _ _ (by rw [List.length_set]; exact hk) ?_ (fun y hy => hp y (by simp [hy]))
    by_cases e : x.pos = (k : Int)
    · rw [if_pos e, e, Int.toNat_natCast]
      simp [List.getD_eq_getElem?_getD, hk]
    · rw [if_neg e, ← h, List.getD_eq_getElem?_getD, List.getElem?_set, if_neg (by omega), List.getD_eq_getElem?_getD]
theorem readB_synced {y z : Dk} (h : Synced y z) (hr : y.run = true) (hs : stopB y.left y.ws.length = false) {k : Nat} (hk : k < y.rs.length) : readB z k = readB y k := by
  obtain ⟨h1, h2, h3, h4, h5, h6⟩ := h
  rw [readB_nil h1 k (by rw [h6]; exact hk), h2]
  unfold synB
  rw [hs]
  refine readB_setB k y.ws y.bs _ (by unfold Dk.bs; simpa using hk) (by unfold Dk.bs; simp [hk]) (fun x hx => ((Dk.facts hr).2.2.1 x hx).1.1)
theorem padR_take (bs : List Int) : (padR bs).take bs.length = bs := by unfold padR; simp
set_option maxRecDepth 100000 in
set_option maxHeartbeats 4000000 in
theorem diskReads_walk (d : Dk) (k o : Int) (r s : Rw) (w : World) (D1 : Hid (DkOk w d)) (hr : Hid (RwOk w r)) (hs : Hid (RwOk w s)) : Calls Try.prog 7 #[.agg d.c, .int .i64 k, .int .i64 o, r.v, s.v] w fun e w' => e = .returned (.bool true) ∧ Below w.heap.size w w' := by
  go_enter Try.func7, Try.ntmps7
  have BB := Lib.hid (Below.refl w.heap.size w)
  obtain ⟨pb, mb, cb, bs⟩ := r
  have RB := Lib.hid hr.out.1
  have HBY := Lib.hid hr.out.2.1
  have hm1 := hr.out.2.2.1
  have hm2 := hr.out.2.2.2.1
  have hm3 := hr.out.2.2.2.2
  dsimp only at RB HBY hm1 hm2 hm3
  clear hr
  obtain ⟨pc, mc, cc, cs⟩ := s
  have RC := Lib.hid hs.out.1
  have HCY := Lib.hid hs.out.2.1
  have hn1 := hs.out.2.2.1
  have hn2 := hs.out.2.2.2.1
  have hn3 := hs.out.2.2.2.2
  dsimp only at RC HCY hn1 hn2 hn3
  clear hs
  have hb := bel_alloc1 w (.cells d.c 25)
  replace D1 := Lib.hid (D1.out.below hb)
  replace RB := Lib.hid (RB.out.below hb)
  replace RC := Lib.hid (RC.out.below hb)
  replace BB := Lib.hid (BB.out.trans ((hb).mono BB.out.size))
  clear hb
  have V5 := Lib.hid (Blk.new w d.c 25)
  go_upto_region 1 with fail
  generalize World.alloc w _ = W1 at BB D1 RB RC V5 ⊢
  generalize w.heap.size = nV5 at V5 ⊢
  go_wp2_with fail
  refine (sane_any _).mono ?_
  rintro e W2 ⟨rfl, hb⟩
  replace D1 := Lib.hid (D1.out.below hb)
  replace RB := Lib.hid (RB.out.below hb)
  replace RC := Lib.hid (RC.out.below hb)
  replace V5 := Lib.hid (V5.out.below hb V5.out.lt)
  replace BB := Lib.hid (BB.out.trans ((hb).mono BB.out.size))
  clear hb
  have cV50 := V5.out.cell 0
  have cV51 := V5.out.cell 1
  have cV52 := V5.out.cell 2
  have cV53 := V5.out.cell 3
  have lV5 := V5.out.lt
  go_wp2_with fail
  refine (few_L d _ D1).mono ?_
  rintro e W3 ⟨⟨q, rfl⟩, hb⟩
  replace D1 := Lib.hid (D1.out.below hb)
  replace RB := Lib.hid (RB.out.below hb)
  replace RC := Lib.hid (RC.out.below hb)
  replace V5 := Lib.hid (V5.out.below hb V5.out.lt)
  replace BB := Lib.hid (BB.out.trans ((hb).mono BB.out.size))
  clear hb
  clear cV50 cV51 cV52 cV53 lV5
  cases q with
  | false =>
    go_wp2_with fail
    go_ret
    exact ⟨rfl, BB.out⟩
  | true =>
    by_cases hb1 : 128 < mb
    case pos =>
      go_wp2_with fail
      go_ret
      exact ⟨rfl, BB.out⟩
    case neg =>
    by_cases hb2 : 128 < mc
    case pos =>
      go_wp2_with fail
      go_ret
      exact ⟨rfl, BB.out⟩
    case neg =>
      have cV50 := V5.out.cell 0
      have cV51 := V5.out.cell 1
      have cV52 := V5.out.cell 2
      have cV53 := V5.out.cell 3
      have lV5 := V5.out.lt
      go_wp2_with fail
      refine (read_X d o _ D1).mono ?_
      rintro e W4 ⟨⟨q0, m0, c0, bs0, e0, rfl, hsr, hx⟩, hb⟩
      replace D1 := Lib.hid (D1.out.below hb)
      replace RB := Lib.hid (RB.out.below hb)
      replace RC := Lib.hid (RC.out.below hb)
      replace V5 := Lib.hid (V5.out.below hb V5.out.lt)
      replace BB := Lib.hid (BB.out.trans ((hb).mono BB.out.size))
      clear hb
      have S0 := Lib.hid hsr
      have X0 := Lib.hid hx
      clear hsr hx
      clear cV50 cV51 cV52 cV53 lV5
      have cV50 := V5.out.cell 0
      have cV51 := V5.out.cell 1
      have cV52 := V5.out.cell 2
      have cV53 := V5.out.cell 3
      have lV5 := V5.out.lt
      go_wp2_with fail
      refine (write_X d k pb mb cb bs _ D1 RB HBY hm1).mono ?_
      rintro e W5 ⟨⟨x, ex, rfl, hd, hf, hsp⟩, hb⟩
      replace D1 := Lib.hid (D1.out.below hb)
      replace RB := Lib.hid (RB.out.below hb)
      replace RC := Lib.hid (RC.out.below hb)
      replace V5 := Lib.hid (V5.out.below hb V5.out.lt)
      replace S0 := Lib.hid (S0.out.below hb)
      replace BB := Lib.hid (BB.out.trans ((hb).mono BB.out.size))
      clear hb
      have DX := Lib.hid hd
      have FX := Lib.hid hf
      clear hd hf hsp
      clear cV50 cV51 cV52 cV53 lV5
      have hb := bel_alloc1 W5 (.cells x.c 25)
      replace D1 := Lib.hid (D1.out.below hb)
      replace RB := Lib.hid (RB.out.below hb)
      replace RC := Lib.hid (RC.out.below hb)
      replace V5 := Lib.hid (V5.out.below hb V5.out.lt)
      replace S0 := Lib.hid (S0.out.below hb)
      replace DX := Lib.hid (DX.out.below hb)
      replace BB := Lib.hid (BB.out.trans ((hb).mono BB.out.size))
      clear hb
      have V13 := Lib.hid (Blk.new W5 x.c 25)
      go_upto_region 7 with fail
      generalize World.alloc W5 _ = W6 at BB D1 RB RC V5 S0 DX V13 ⊢
      generalize W5.heap.size = nV13 at V13 ⊢
      rcases X0.out with ⟨ha, rfl, rfl⟩ | ⟨ha, rfl, hbs0⟩
      · go_wp2_with fail
        go_ret
        exact ⟨rfl, BB.out⟩
      rcases FX.out with ⟨hk, rfl, hx0⟩ | ⟨hk, hbl, rfl, hx0⟩ | ⟨hk, hbl, hwl, rfl, hx0⟩ | ⟨hk, hbl, hwl, rfl, hf⟩
      · go_wp2_with fail
        go_ret
        exact ⟨rfl, BB.out⟩
      · go_wp2_with fail
        go_ret
        exact ⟨rfl, BB.out⟩
      · go_wp2_with fail
        go_ret
        exact ⟨rfl, BB.out⟩
      obtain ⟨hr, ho0, ho1⟩ := at_t ha
      obtain ⟨_, hk0, hk1⟩ := at_t hk
      obtain ⟨no, rfl⟩ : ∃ n : Nat, o = (n : Int) := ⟨o.toNat, by omega⟩
      obtain ⟨nk, rfl⟩ : ∃ n : Nat, k = (n : Int) := ⟨k.toNat, by omega⟩
      have W1 := Lib.hid hf
      have E0 := Lib.hid (show bs0 = readB d no from hbs0)
      have Q1 := Lib.hid hr
      have QX := Lib.hid (wrote_run hf hr (by have := D1.out.lens; omega) hwl)
      have nx : x.ns = d.ns := by rw [DX.out.lens.1, D1.out.lens.1, hf.1]
      have hno : no < x.ns := by omega
      have hnk : nk < x.ns := by omega
      have NX := Lib.hid nx
      have hmb : mb ≤ 128 := by omega
      have EK := Lib.hid (show readB x nk = padR bs by have := readB_wrote hf nk; rw [this]; exact if_pos rfl)
      have EO := Lib.hid (fun (h : no ≠ nk) => show readB x no = readB d no by have := readB_wrote hf no; rw [this]; exact if_neg h)
      have HML := Lib.hid RB.out.len
      have HMB := Lib.hid (show bs.length ≤ 128 by have := RB.out.len; omega)
      clear ha hk hbs0 hr hf hwl hbl ho0 hk0 nx X0 FX
      have cV130 := V13.out.cell 0
      have cV131 := V13.out.cell 1
      have cV132 := V13.out.cell 2
      have cV133 := V13.out.cell 3
      have lV13 := V13.out.lt
      go_wp2_with fail
      refine (read_L x no _ DX QX hno).mono ?_
      rintro e W7 ⟨⟨b1, o1, c1, rfl, h1, h2, h3, h4⟩, hb⟩
      replace D1 := Lib.hid (D1.out.below hb)
      replace RB := Lib.hid (RB.out.below hb)
      replace RC := Lib.hid (RC.out.below hb)
      replace V5 := Lib.hid (V5.out.below hb V5.out.lt)
      replace S0 := Lib.hid (S0.out.below hb)
      replace DX := Lib.hid (DX.out.below hb)
      replace V13 := Lib.hid (V13.out.below hb V13.out.lt)
      replace BB := Lib.hid (BB.out.trans ((hb).mono BB.out.size))
      clear hb
      have RD1 := Lib.hid (show RdOk _ b1 o1 (readB x no) from ⟨h1, h3⟩)
      have LD1 := Lib.hid h2
      clear h1 h2 h3 h4
      clear cV130 cV131 cV132 cV133 lV13
      have cV130 := V13.out.cell 0
      have cV131 := V13.out.cell 1
      have cV132 := V13.out.cell 2
      have cV133 := V13.out.cell 3
      have lV13 := V13.out.lt
      go_wp2_with fail
      refine (read_L x nk _ DX QX hnk).mono ?_
      rintro e W8 ⟨⟨b2, o2, c2, rfl, h1, h2, h3, h4⟩, hb⟩
      replace D1 := Lib.hid (D1.out.below hb)
      replace RB := Lib.hid (RB.out.below hb)
      replace RC := Lib.hid (RC.out.below hb)
      replace V5 := Lib.hid (V5.out.below hb V5.out.lt)
      replace S0 := Lib.hid (S0.out.below hb)
      replace DX := Lib.hid (DX.out.below hb)
      replace V13 := Lib.hid (V13.out.below hb V13.out.lt)
      replace RD1 := Lib.hid (RD1.out.below hb)
      replace BB := Lib.hid (BB.out.trans ((hb).mono BB.out.size))
      clear hb
      have RD2 := Lib.hid (show RdOk _ b2 o2 (padR bs) from ⟨by rw [← EK.out]; exact h1, h3⟩)
      have hc2 : mb ≤ c2 := by omega
      clear h1 h2 h3 h4
      clear cV130 cV131 cV132 cV133 lV13
      have hc2i : (mb : Int) ≤ (c2 : Int) := by omega
      go_upto_region 11 with fail
      go_cut [106] (fun s106 wx => s106 = .bool false ∧ Hid (Blk wx nV5 d.c 25) ∧ Hid (Blk wx nV13 x.c 25) ∧ Hid (DkOk wx d) ∧ Hid (DkOk wx x) ∧ Hid (SrcW wx pc mc cc cs) ∧ Hid (Below w.heap.size w wx))
      case first =>
        by_cases hko : no = nk
        case pos =>
          subst hko
          have hne1 : ((no : Int) != (no : Int)) = false := by simp
          refine wp_region_any (by kernel_rfl) ?_
          change wpAny _ _ _ _ _ _ _ (World.drew _)
          generalize hWD : World.drew _ = W
          have V5W := Lib.hid (show Blk W nV5 d.c 25 by rw [← hWD]; exact V5.out)
          have V13W := Lib.hid (show Blk W nV13 x.c 25 by rw [← hWD]; exact V13.out)
          have D1W := Lib.hid (show DkOk W d by rw [← hWD]; exact D1.out.below ((Below.refl _ _).drew))
          have DXW := Lib.hid (show DkOk W x by rw [← hWD]; exact DX.out.below ((Below.refl _ _).drew))
          have RCW := Lib.hid (show SrcW W pc mc cc cs by rw [← hWD]; exact RC.out.below ((Below.refl _ _).drew))
          have BW := Lib.hid (show Below w.heap.size w W by rw [← hWD]; exact BB.out.drew)
          have QB := Lib.hid (show SrcW W pb mb cb bs by rw [← hWD]; exact RB.out.below ((Below.refl _ _).drew))
          have QM := Lib.hid (show SrcW W (some ⟨b2, o2, none⟩) mb c2 bs by rw [← hWD]; exact .inl ⟨HML.out, .inr ⟨b2, o2, rfl, RD2.out.2, by have := RD2.out.1.take bs.length; rwa [padR_take] at this⟩⟩)
          have Q0 := Lib.hid (show SrcW W q0 m0 c0 (readB d no) by rw [← hWD, ← E0.out]; exact S0.out.below ((Below.refl _ _).drew))
          have QA := Lib.hid (show SrcW W (some ⟨b1, o1, none⟩) 128 c1 (readB x no) by rw [← hWD]; exact .inl ⟨LD1.out.symm, .inr ⟨b1, o1, rfl, RD1.out.2, RD1.out.1⟩⟩)
          clear hWD V5 V13 D1 DX RB RC BB S0 RD1 RD2
          have CB := Lib.hid (fun u (hu : Ext W u) => conv_srcW (QB.out.below hu))
          have CM := Lib.hid (fun u (hu : Ext W u) => conv_srcW (QM.out.below hu))
          have C0 := Lib.hid (fun u (hu : Ext W u) => conv_srcW (Q0.out.below hu))
          have CA := Lib.hid (fun u (hu : Ext W u) => conv_srcW (QA.out.below hu))
          have hCD : ∀ u, Ext W u → Ext W u := fun u hu => hu
          refine region_U (D := Ext W) (Ext W) [32] (Ext.refl W) ?_
          refine anyU_takeD (i := 0) (v := .int .i64 0) 74 rfl rfl (by kernel_rfl) (by kernel_rfl) (by kernel_rfl) (fun _ _ _ h => h) (by kernel_rfl) (Ext.stable _) hCD (yieldsU_val rfl (fun u hu => by go_simp)) ?_
          refine anyU_takeD (i := 1) (v := .bool false) 75 rfl rfl (by kernel_rfl) (by kernel_rfl) (by kernel_rfl) (fun _ _ _ h => h) (by kernel_rfl) (Ext.stable _) hCD (yieldsU_val rfl (fun u hu => by go_simp)) ?_
          refine anyU_takeD (i := 2) (v := .bool false) 76 rfl rfl (by kernel_rfl) (by kernel_rfl) (by kernel_rfl) (fun _ _ _ h => h) (by kernel_rfl) (Ext.stable _) hCD (yieldsU_val rfl (fun u hu => by go_simp)) ?_
          refine anyU_takeD (i := 3) (v := .int .i64 0) 77 rfl rfl (by kernel_rfl) (by kernel_rfl) (by kernel_rfl) (fun _ _ _ h => h) (by kernel_rfl) (Ext.stable _) hCD (yieldsU_val rfl (fun u hu => by go_simp)) ?_
          refine anyU_takeD (i := 4) (v := .bool false) 78 rfl rfl (by kernel_rfl) (by kernel_rfl) (by kernel_rfl) (fun _ _ _ h => h) (by kernel_rfl) (Ext.stable _) hCD (yieldsU_val rfl (fun u hu => by go_simp)) ?_
          refine anyU_takeD (i := 5) (v := .bool false) 79 rfl rfl (by kernel_rfl) (by kernel_rfl) (by kernel_rfl) (fun _ _ _ h => h) (by kernel_rfl) (Ext.stable _) hCD (yieldsU_val rfl (fun u hu => by go_simp)) ?_
          simp only [Act.put, List.setIfInBounds_toArray, List.set_cons_succ, List.set_cons_zero]
          refine anyU_takeD (i := 6) (v := .bool false) 80 rfl rfl (by kernel_rfl) (by kernel_rfl) (by kernel_rfl) (fun _ _ _ h => h) (by kernel_rfl) (Ext.stable _) hCD (yieldsU_val rfl (fun u hu => by go_simp)) ?_
          refine anyU_takeD (i := 7) (v := .slice (some ⟨b2, o2, none⟩) 128 c2) 81 rfl rfl (by kernel_rfl) (by kernel_rfl) (by kernel_rfl) (fun _ _ _ h => h) (by kernel_rfl) (Ext.stable _) hCD (yieldsU_val rfl (fun u hu => by go_simp)) ?_
          refine anyU_takeD (i := 8) (v := .int .i64 128) 82 rfl rfl (by kernel_rfl) (by kernel_rfl) (by kernel_rfl) (fun _ _ _ h => h) (by kernel_rfl) (Ext.stable _) hCD (yieldsU_val rfl (fun u hu => by go_simp)) ?_
          refine anyU_takeD (i := 9) (v := .bool false) 83 rfl rfl (by kernel_rfl) (by kernel_rfl) (by kernel_rfl) (fun _ _ _ h => h) (by kernel_rfl) (Ext.stable _) hCD (yieldsU_val rfl (fun u hu => by go_simp)) ?_
          refine anyU_takeD (i := 10) (v := .bool false) 84 rfl rfl (by kernel_rfl) (by kernel_rfl) (by kernel_rfl) (fun _ _ _ h => h) (by kernel_rfl) (Ext.stable _) hCD (yieldsU_val rfl (fun u hu => by go_simp)) ?_
          refine anyU_takeD (i := 11) (v := .bool false) 85 rfl rfl (by kernel_rfl) (by kernel_rfl) (by kernel_rfl) (fun _ _ _ h => h) (by kernel_rfl) (Ext.stable _) hCD (yieldsU_val rfl (fun u hu => by go_simp)) ?_
          simp only [Act.put, List.setIfInBounds_toArray, List.set_cons_succ, List.set_cons_zero]
          refine anyU_takeD (i := 12) (v := .slice (some ⟨b2, o2, none⟩) 128 c2) 86 rfl rfl (by kernel_rfl) (by kernel_rfl) (by kernel_rfl) (fun _ _ _ h => h) (by kernel_rfl) (Ext.stable _) hCD (yieldsU_val rfl (fun u hu => by go_simp)) ?_
          refine anyU_takeD (i := 13) (v := .slice pb mb cb) 87 rfl rfl (by kernel_rfl) (by kernel_rfl) (by kernel_rfl) (fun _ _ _ h => h) (by kernel_rfl) (Ext.stable _) hCD (yieldsU_val rfl (fun u hu => by go_simp)) ?_
          refine anyU_takeD (i := 14) (v := .int .i64 (mb : Int)) 88 rfl rfl (by kernel_rfl) (by kernel_rfl) (by kernel_rfl) (fun _ _ _ h => h) (by kernel_rfl) (Ext.stable _) hCD (yieldsU_val rfl (fun u hu => by go_simp)) ?_
          refine anyU_takeD (i := 15) (v := .slice (some ⟨b2, o2, none⟩) mb c2) 89 rfl rfl (by kernel_rfl) (by kernel_rfl) (by kernel_rfl) (fun _ _ _ h => h) (by kernel_rfl) (Ext.stable _) hCD (yieldsU_val rfl (fun u hu => by go_simp)) ?_
          refine anyU_takeD (i := 16) (v := .string (strB bs)) 90 rfl rfl (by kernel_rfl) (by kernel_rfl) (by kernel_rfl) (fun _ _ _ h => h) (by kernel_rfl) (Ext.stable _) hCD (yieldsU_val rfl (fun u hu => by have c := CM.out u hu; go_simp)) ?_
          simp only [Act.put, List.setIfInBounds_toArray, List.set_cons_succ, List.set_cons_zero]
          refine anyU_takeD (i := 17) (v := .slice pb mb cb) 91 rfl rfl (by kernel_rfl) (by kernel_rfl) (by kernel_rfl) (fun _ _ _ h => h) (by kernel_rfl) (Ext.stable _) hCD (yieldsU_val rfl (fun u hu => by go_simp)) ?_
          refine anyU_takeD (i := 18) (v := .string (strB bs)) 92 rfl rfl (by kernel_rfl) (by kernel_rfl) (by kernel_rfl) (fun _ _ _ h => h) (by kernel_rfl) (Ext.stable _) hCD (yieldsU_val rfl (fun u hu => by have c := CB.out u hu; go_simp)) ?_
          refine anyU_takeD (i := 19) (v := .bool false) 93 rfl rfl (by kernel_rfl) (by kernel_rfl) (by kernel_rfl) (fun _ _ _ h => h) (by kernel_rfl) (Ext.stable _) hCD (yieldsU_val rfl (fun u hu => by go_simp)) ?_
          refine anyU_takeD (i := 20) (v := .bool false) 94 rfl rfl (by kernel_rfl) (by kernel_rfl) (by kernel_rfl) (fun _ _ _ h => h) (by kernel_rfl) (Ext.stable _) hCD (yieldsU_val rfl (fun u hu => by go_simp)) ?_
          refine anyU_takeD (i := 21) (v := .bool false) 95 rfl rfl (by kernel_rfl) (by kernel_rfl) (by kernel_rfl) (fun _ _ _ h => h) (by kernel_rfl) (Ext.stable _) hCD (yieldsU_val rfl (fun u hu => by go_simp)) ?_
          simp only [Act.put, List.setIfInBounds_toArray, List.set_cons_succ, List.set_cons_zero]
          refine anyU_takeD (i := 22) (v := .int .i64 (no : Int)) 96 rfl rfl (by kernel_rfl) (by kernel_rfl) (by kernel_rfl) (fun _ _ _ h => h) (by kernel_rfl) (Ext.stable _) hCD (yieldsU_val rfl (fun u hu => by go_simp)) ?_
          refine anyU_takeD (i := 23) (v := .int .i64 (no : Int)) 97 rfl rfl (by kernel_rfl) (by kernel_rfl) (by kernel_rfl) (fun _ _ _ h => h) (by kernel_rfl) (Ext.stable _) hCD (yieldsU_val rfl (fun u hu => by go_simp)) ?_
          refine anyU_takeD (i := 24) (v := .bool false) 98 rfl rfl (by kernel_rfl) (by kernel_rfl) (by kernel_rfl) (fun _ _ _ h => h) (by kernel_rfl) (Ext.stable _) hCD (yieldsU_val rfl (fun u hu => by go_simp)) ?_
          refine anyU_takeD (i := 25) (v := .bool false) 99 rfl rfl (by kernel_rfl) (by kernel_rfl) (by kernel_rfl) (fun _ _ _ h => h) (by kernel_rfl) (Ext.stable _) hCD (yieldsU_val rfl (fun u hu => by go_simp)) ?_
          simp only [Act.put, List.setIfInBounds_toArray, List.set_cons_succ, List.set_cons_zero]
          refine anyU_takeD (i := 26) (v := undef) 100 rfl rfl (by kernel_rfl) (by kernel_rfl) (by kernel_rfl) (fun _ _ _ h => h) (by kernel_rfl) (Ext.stable _) hCD (Or.inr ⟨rfl, rfl⟩) ?_
          refine anyU_takeD (i := 27) (v := undef) 101 rfl rfl (by kernel_rfl) (by kernel_rfl) (by kernel_rfl) (fun _ _ _ h => h) (by kernel_rfl) (Ext.stable _) hCD (Or.inr ⟨rfl, rfl⟩) ?_
          refine anyU_takeD (i := 28) (v := undef) 102 rfl rfl (by kernel_rfl) (by kernel_rfl) (by kernel_rfl) (fun _ _ _ h => h) (by kernel_rfl) (Ext.stable _) hCD (Or.inr ⟨rfl, rfl⟩) ?_
          refine anyU_takeD (i := 29) (v := undef) 103 rfl rfl (by kernel_rfl) (by kernel_rfl) (by kernel_rfl) (fun _ _ _ h => h) (by kernel_rfl) (Ext.stable _) hCD (Or.inr ⟨rfl, rfl⟩) ?_
          refine anyU_takeD (i := 30) (v := undef) 104 rfl rfl (by kernel_rfl) (by kernel_rfl) (by kernel_rfl) (fun _ _ _ h => h) (by kernel_rfl) (Ext.stable _) hCD (Or.inr ⟨rfl, rfl⟩) ?_
          simp only [Act.put, List.setIfInBounds_toArray, List.set_cons_succ, List.set_cons_zero]
          refine anyU_takeD (i := 31) (v := .bool false) 105 rfl rfl (by kernel_rfl) (by kernel_rfl) (by kernel_rfl) (fun _ _ _ h => h) (by kernel_rfl) (Ext.stable _) hCD (yieldsU_val rfl (fun u hu => by go_simp)) ?_
          simp only [Act.put, List.setIfInBounds_toArray, List.set_cons_succ, List.set_cons_zero]
          refine anyU_tail 32 [] rfl rfl (by decide) (by kernel_rfl) ?_
          intro u2 hu2
          simp only [Act.put, List.filterMap_cons, List.filterMap_nil, List.getElem?_cons_succ, List.getElem?_cons_zero]
          have V5 := Lib.hid (V5W.out.below hu2 V5W.out.lt)
          have V13 := Lib.hid (V13W.out.below hu2 V13W.out.lt)
          have D1 := Lib.hid (D1W.out.below hu2)
          have DX := Lib.hid (DXW.out.below hu2)
          have RC := Lib.hid (RCW.out.below hu2)
          have BB := Lib.hid (BW.out.trans (Below.mono hu2 BW.out.size))
          clear hu2
          go_wp2_with fail
          go_meet
          exact ⟨rfl, V5, V13, D1, DX, RC, BB⟩
        case neg =>
          have HEO := EO.out hko
          have hne1 : ((nk : Int) != (no : Int)) = true := by simp; omega
          refine wp_region_any (by kernel_rfl) ?_
          change wpAny _ _ _ _ _ _ _ (World.drew _)
          generalize hWD : World.drew _ = W
          have V5W := Lib.hid (show Blk W nV5 d.c 25 by rw [← hWD]; exact V5.out)
          have V13W := Lib.hid (show Blk W nV13 x.c 25 by rw [← hWD]; exact V13.out)
          have D1W := Lib.hid (show DkOk W d by rw [← hWD]; exact D1.out.below ((Below.refl _ _).drew))
          have DXW := Lib.hid (show DkOk W x by rw [← hWD]; exact DX.out.below ((Below.refl _ _).drew))
          have RCW := Lib.hid (show SrcW W pc mc cc cs by rw [← hWD]; exact RC.out.below ((Below.refl _ _).drew))
          have BW := Lib.hid (show Below w.heap.size w W by rw [← hWD]; exact BB.out.drew)
          have QB := Lib.hid (show SrcW W pb mb cb bs by rw [← hWD]; exact RB.out.below ((Below.refl _ _).drew))
          have QM := Lib.hid (show SrcW W (some ⟨b2, o2, none⟩) mb c2 bs by rw [← hWD]; exact .inl ⟨HML.out, .inr ⟨b2, o2, rfl, RD2.out.2, by have := RD2.out.1.take bs.length; rwa [padR_take] at this⟩⟩)
          have Q0 := Lib.hid (show SrcW W q0 m0 c0 (readB d no) by rw [← hWD, ← E0.out]; exact S0.out.below ((Below.refl _ _).drew))
          have QA := Lib.hid (show SrcW W (some ⟨b1, o1, none⟩) 128 c1 (readB x no) by rw [← hWD]; exact .inl ⟨LD1.out.symm, .inr ⟨b1, o1, rfl, RD1.out.2, RD1.out.1⟩⟩)
          clear hWD V5 V13 D1 DX RB RC BB S0 RD1 RD2
          have CB := Lib.hid (fun u (hu : Ext W u) => conv_srcW (QB.out.below hu))
          have CM := Lib.hid (fun u (hu : Ext W u) => conv_srcW (QM.out.below hu))
          have C0 := Lib.hid (fun u (hu : Ext W u) => conv_srcW (Q0.out.below hu))
          have CA := Lib.hid (fun u (hu : Ext W u) => conv_srcW (QA.out.below hu))
          have hCD : ∀ u, Ext W u → Ext W u := fun u hu => hu
          refine region_U (D := Ext W) (Ext W) [32] (Ext.refl W) ?_
          refine anyU_takeD (i := 0) (v := .int .i64 0) 74 rfl rfl (by kernel_rfl) (by kernel_rfl) (by kernel_rfl) (fun _ _ _ h => h) (by kernel_rfl) (Ext.stable _) hCD (yieldsU_val rfl (fun u hu => by go_simp)) ?_
          refine anyU_takeD (i := 1) (v := .bool false) 75 rfl rfl (by kernel_rfl) (by kernel_rfl) (by kernel_rfl) (fun _ _ _ h => h) (by kernel_rfl) (Ext.stable _) hCD (yieldsU_val rfl (fun u hu => by go_simp)) ?_
          refine anyU_takeD (i := 2) (v := .bool false) 76 rfl rfl (by kernel_rfl) (by kernel_rfl) (by kernel_rfl) (fun _ _ _ h => h) (by kernel_rfl) (Ext.stable _) hCD (yieldsU_val rfl (fun u hu => by go_simp)) ?_
          refine anyU_takeD (i := 3) (v := .int .i64 0) 77 rfl rfl (by kernel_rfl) (by kernel_rfl) (by kernel_rfl) (fun _ _ _ h => h) (by kernel_rfl) (Ext.stable _) hCD (yieldsU_val rfl (fun u hu => by go_simp)) ?_
          refine anyU_takeD (i := 4) (v := .bool false) 78 rfl rfl (by kernel_rfl) (by kernel_rfl) (by kernel_rfl) (fun _ _ _ h => h) (by kernel_rfl) (Ext.stable _) hCD (yieldsU_val rfl (fun u hu => by go_simp)) ?_
          refine anyU_takeD (i := 5) (v := .bool false) 79 rfl rfl (by kernel_rfl) (by kernel_rfl) (by kernel_rfl) (fun _ _ _ h => h) (by kernel_rfl) (Ext.stable _) hCD (yieldsU_val rfl (fun u hu => by go_simp)) ?_
          simp only [Act.put, List.setIfInBounds_toArray, List.set_cons_succ, List.set_cons_zero]
          refine anyU_takeD (i := 6) (v := .bool false) 80 rfl rfl (by kernel_rfl) (by kernel_rfl) (by kernel_rfl) (fun _ _ _ h => h) (by kernel_rfl) (Ext.stable _) hCD (yieldsU_val rfl (fun u hu => by go_simp)) ?_
          refine anyU_takeD (i := 7) (v := .slice (some ⟨b2, o2, none⟩) 128 c2) 81 rfl rfl (by kernel_rfl) (by kernel_rfl) (by kernel_rfl) (fun _ _ _ h => h) (by kernel_rfl) (Ext.stable _) hCD (yieldsU_val rfl (fun u hu => by go_simp)) ?_
          refine anyU_takeD (i := 8) (v := .int .i64 128) 82 rfl rfl (by kernel_rfl) (by kernel_rfl) (by kernel_rfl) (fun _ _ _ h => h) (by kernel_rfl) (Ext.stable _) hCD (yieldsU_val rfl (fun u hu => by go_simp)) ?_
          refine anyU_takeD (i := 9) (v := .bool false) 83 rfl rfl (by kernel_rfl) (by kernel_rfl) (by kernel_rfl) (fun _ _ _ h => h) (by kernel_rfl) (Ext.stable _) hCD (yieldsU_val rfl (fun u hu => by go_simp)) ?_
          refine anyU_takeD (i := 10) (v := .bool false) 84 rfl rfl (by kernel_rfl) (by kernel_rfl) (by kernel_rfl) (fun _ _ _ h => h) (by kernel_rfl) (Ext.stable _) hCD (yieldsU_val rfl (fun u hu => by go_simp)) ?_
          refine anyU_takeD (i := 11) (v := .bool false) 85 rfl rfl (by kernel_rfl) (by kernel_rfl) (by kernel_rfl) (fun _ _ _ h => h) (by kernel_rfl) (Ext.stable _) hCD (yieldsU_val rfl (fun u hu => by go_simp)) ?_
          simp only [Act.put, List.setIfInBounds_toArray, List.set_cons_succ, List.set_cons_zero]
          refine anyU_takeD (i := 12) (v := .slice (some ⟨b2, o2, none⟩) 128 c2) 86 rfl rfl (by kernel_rfl) (by kernel_rfl) (by kernel_rfl) (fun _ _ _ h => h) (by kernel_rfl) (Ext.stable _) hCD (yieldsU_val rfl (fun u hu => by go_simp)) ?_
          refine anyU_takeD (i := 13) (v := .slice pb mb cb) 87 rfl rfl (by kernel_rfl) (by kernel_rfl) (by kernel_rfl) (fun _ _ _ h => h) (by kernel_rfl) (Ext.stable _) hCD (yieldsU_val rfl (fun u hu => by go_simp)) ?_
          refine anyU_takeD (i := 14) (v := .int .i64 (mb : Int)) 88 rfl rfl (by kernel_rfl) (by kernel_rfl) (by kernel_rfl) (fun _ _ _ h => h) (by kernel_rfl) (Ext.stable _) hCD (yieldsU_val rfl (fun u hu => by go_simp)) ?_
          refine anyU_takeD (i := 15) (v := .slice (some ⟨b2, o2, none⟩) mb c2) 89 rfl rfl (by kernel_rfl) (by kernel_rfl) (by kernel_rfl) (fun _ _ _ h => h) (by kernel_rfl) (Ext.stable _) hCD (yieldsU_val rfl (fun u hu => by go_simp)) ?_
          refine anyU_takeD (i := 16) (v := .string (strB bs)) 90 rfl rfl (by kernel_rfl) (by kernel_rfl) (by kernel_rfl) (fun _ _ _ h => h) (by kernel_rfl) (Ext.stable _) hCD (yieldsU_val rfl (fun u hu => by have c := CM.out u hu; go_simp)) ?_
          simp only [Act.put, List.setIfInBounds_toArray, List.set_cons_succ, List.set_cons_zero]
          refine anyU_takeD (i := 17) (v := .slice pb mb cb) 91 rfl rfl (by kernel_rfl) (by kernel_rfl) (by kernel_rfl) (fun _ _ _ h => h) (by kernel_rfl) (Ext.stable _) hCD (yieldsU_val rfl (fun u hu => by go_simp)) ?_
          refine anyU_takeD (i := 18) (v := .string (strB bs)) 92 rfl rfl (by kernel_rfl) (by kernel_rfl) (by kernel_rfl) (fun _ _ _ h => h) (by kernel_rfl) (Ext.stable _) hCD (yieldsU_val rfl (fun u hu => by have c := CB.out u hu; go_simp)) ?_
          refine anyU_takeD (i := 19) (v := .bool false) 93 rfl rfl (by kernel_rfl) (by kernel_rfl) (by kernel_rfl) (fun _ _ _ h => h) (by kernel_rfl) (Ext.stable _) hCD (yieldsU_val rfl (fun u hu => by go_simp)) ?_
          refine anyU_takeD (i := 20) (v := .bool false) 94 rfl rfl (by kernel_rfl) (by kernel_rfl) (by kernel_rfl) (fun _ _ _ h => h) (by kernel_rfl) (Ext.stable _) hCD (yieldsU_val rfl (fun u hu => by go_simp)) ?_
          refine anyU_takeD (i := 21) (v := .bool false) 95 rfl rfl (by kernel_rfl) (by kernel_rfl) (by kernel_rfl) (fun _ _ _ h => h) (by kernel_rfl) (Ext.stable _) hCD (yieldsU_val rfl (fun u hu => by go_simp)) ?_
          simp only [Act.put, List.setIfInBounds_toArray, List.set_cons_succ, List.set_cons_zero]
          refine anyU_takeD (i := 22) (v := .int .i64 (nk : Int)) 96 rfl rfl (by kernel_rfl) (by kernel_rfl) (by kernel_rfl) (fun _ _ _ h => h) (by kernel_rfl) (Ext.stable _) hCD (yieldsU_val rfl (fun u hu => by go_simp)) ?_
          refine anyU_takeD (i := 23) (v := .int .i64 (no : Int)) 97 rfl rfl (by kernel_rfl) (by kernel_rfl) (by kernel_rfl) (fun _ _ _ h => h) (by kernel_rfl) (Ext.stable _) hCD (yieldsU_val rfl (fun u hu => by go_simp)) ?_
          refine anyU_takeD (i := 24) (v := .bool true) 98 rfl rfl (by kernel_rfl) (by kernel_rfl) (by kernel_rfl) (fun _ _ _ h => h) (by kernel_rfl) (Ext.stable _) hCD (yieldsU_val rfl (fun u hu => by go_simp)) ?_
          refine anyU_takeD (i := 25) (v := .bool true) 99 rfl rfl (by kernel_rfl) (by kernel_rfl) (by kernel_rfl) (fun _ _ _ h => h) (by kernel_rfl) (Ext.stable _) hCD (yieldsU_val rfl (fun u hu => by go_simp)) ?_
          simp only [Act.put, List.setIfInBounds_toArray, List.set_cons_succ, List.set_cons_zero]
          refine anyU_takeD (i := 26) (v := .slice q0 m0 c0) 100 rfl rfl (by kernel_rfl) (by kernel_rfl) (by kernel_rfl) (fun _ _ _ h => h) (by kernel_rfl) (Ext.stable _) hCD (yieldsU_val rfl (fun u hu => by go_simp)) ?_
          refine anyU_takeD (i := 27) (v := .string (strB (readB d no))) 101 rfl rfl (by kernel_rfl) (by kernel_rfl) (by kernel_rfl) (fun _ _ _ h => h) (by kernel_rfl) (Ext.stable _) hCD (yieldsU_val rfl (fun u hu => by have c := C0.out u hu; go_simp)) ?_
          refine anyU_takeD (i := 28) (v := .slice (some ⟨b1, o1, none⟩) 128 c1) 102 rfl rfl (by kernel_rfl) (by kernel_rfl) (by kernel_rfl) (fun _ _ _ h => h) (by kernel_rfl) (Ext.stable _) hCD (yieldsU_val rfl (fun u hu => by go_simp)) ?_
          refine anyU_takeD (i := 29) (v := .string (strB (readB d no))) 103 rfl rfl (by kernel_rfl) (by kernel_rfl) (by kernel_rfl) (fun _ _ _ h => h) (by kernel_rfl) (Ext.stable _) hCD (yieldsU_val rfl (fun u hu => by have c := CA.out u hu; rw [HEO] at c; go_simp)) ?_
          refine anyU_takeD (i := 30) (v := .bool false) 104 rfl rfl (by kernel_rfl) (by kernel_rfl) (by kernel_rfl) (fun _ _ _ h => h) (by kernel_rfl) (Ext.stable _) hCD (yieldsU_val rfl (fun u hu => by go_simp)) ?_
          simp only [Act.put, List.setIfInBounds_toArray, List.set_cons_succ, List.set_cons_zero]
          refine anyU_takeD (i := 31) (v := .bool false) 105 rfl rfl (by kernel_rfl) (by kernel_rfl) (by kernel_rfl) (fun _ _ _ h => h) (by kernel_rfl) (Ext.stable _) hCD (yieldsU_val rfl (fun u hu => by go_simp)) ?_
          simp only [Act.put, List.setIfInBounds_toArray, List.set_cons_succ, List.set_cons_zero]
          refine anyU_tail 32 [] rfl rfl (by decide) (by kernel_rfl) ?_
          intro u2 hu2
          simp only [Act.put, List.filterMap_cons, List.filterMap_nil, List.getElem?_cons_succ, List.getElem?_cons_zero]
          have V5 := Lib.hid (V5W.out.below hu2 V5W.out.lt)
          have V13 := Lib.hid (V13W.out.below hu2 V13W.out.lt)
          have D1 := Lib.hid (D1W.out.below hu2)
          have DX := Lib.hid (DXW.out.below hu2)
          have RC := Lib.hid (RCW.out.below hu2)
          have BB := Lib.hid (BW.out.trans (Below.mono hu2 BW.out.size))
          clear hu2
          go_wp2_with fail
          go_meet
          exact ⟨rfl, V5, V13, D1, DX, RC, BB⟩
      case rest =>
        clear V5 V13 D1 DX RB RC BB S0 RD1 RD2
        obtain ⟨rfl, V5, V13, D1, DX, RC, BB⟩ := hcut
        have cV130 := V13.out.cell 0
        have cV131 := V13.out.cell 1
        have cV132 := V13.out.cell 2
        have cV133 := V13.out.cell 3
        have lV13 := V13.out.lt
        go_wp2_with fail
        refine (write_X x (no : Int) pc mc cc cs _ DX RC HCY hn1).mono ?_
        rintro e W51 ⟨⟨y, ey, rfl, hd, hf, hsp⟩, hb⟩
        replace V5 := Lib.hid (V5.out.below hb V5.out.lt)
        replace V13 := Lib.hid (V13.out.below hb V13.out.lt)
        replace D1 := Lib.hid (D1.out.below hb)
        replace DX := Lib.hid (DX.out.below hb)
        replace RC := Lib.hid (RC.out.below hb)
        replace BB := Lib.hid (BB.out.trans ((hb).mono BB.out.size))
        clear hb
        have DY := Lib.hid hd
        have FY := Lib.hid hf
        clear hd hf hsp
        clear cV130 cV131 cV132 cV133 lV13
        have hb := bel_alloc1 W51 (.cells y.c 25)
        replace V5 := Lib.hid (V5.out.below hb V5.out.lt)
        replace V13 := Lib.hid (V13.out.below hb V13.out.lt)
        replace D1 := Lib.hid (D1.out.below hb)
        replace DX := Lib.hid (DX.out.below hb)
        replace RC := Lib.hid (RC.out.below hb)
        replace DY := Lib.hid (DY.out.below hb)
        replace BB := Lib.hid (BB.out.trans ((hb).mono BB.out.size))
        clear hb
        have V19 := Lib.hid (Blk.new W51 y.c 25)
        go_upto_region 14 with fail
        generalize World.alloc W51 _ = W52 at BB V5 V13 D1 DX RC DY V19 ⊢
        generalize W51.heap.size = nV19 at V19 ⊢
        have hat : x.at (no : Int) = true := by unfold Dk.at; rw [QX.out]; simp; omega
        have hcl := RC.out.len
        rcases FY.out with ⟨hk, _⟩ | ⟨_, hbl, _⟩ | ⟨_, _, hwl, rfl, hx0⟩ | ⟨_, _, hwl, rfl, hf⟩
        · rw [hat] at hk; cases hk
        · omega
        · go_wp2_with fail
          go_ret
          exact ⟨rfl, BB.out⟩
        have QY := Lib.hid (wrote_run hf QX.out (by have := DX.out.lens; omega) hwl)
        have ny : y.ns = d.ns := by rw [DY.out.lens.1, ← NX.out, DX.out.lens.1, hf.1]
        have NY := Lib.hid ny
        clear hf hat hcl hwl ny FY
        have cV190 := V19.out.cell 0
        have cV191 := V19.out.cell 1
        have cV192 := V19.out.cell 2
        have cV193 := V19.out.cell 3
        have lV19 := V19.out.lt
        go_wp2_with fail
        refine (sync_L y _ DY QY).mono ?_
        rintro e W53 ⟨⟨z, rfl, hd, hf, hsp⟩, hb⟩
        replace V5 := Lib.hid (V5.out.below hb V5.out.lt)
        replace V13 := Lib.hid (V13.out.below hb V13.out.lt)
        replace D1 := Lib.hid (D1.out.below hb)
        replace DX := Lib.hid (DX.out.below hb)
        replace RC := Lib.hid (RC.out.below hb)
        replace DY := Lib.hid (DY.out.below hb)
        replace V19 := Lib.hid (V19.out.below hb V19.out.lt)
        replace BB := Lib.hid (BB.out.trans ((hb).mono BB.out.size))
        clear hb
        have DZ := Lib.hid hd
        have FZ := Lib.hid hf
        clear hd hf hsp
        clear cV190 cV191 cV192 cV193 lV19
        cases hst : stopB y.left y.ws.length with
        | true =>
          have hzs := Lib.hid (show z.st = true by rw [FZ.out.2.2.2.2.1]; exact hst)
          rw [if_pos rfl]
          have hb := bel_alloc1 W53 (.cells z.c 25)
          replace V5 := Lib.hid (V5.out.below hb V5.out.lt)
          replace V13 := Lib.hid (V13.out.below hb V13.out.lt)
          replace D1 := Lib.hid (D1.out.below hb)
          replace DX := Lib.hid (DX.out.below hb)
          replace RC := Lib.hid (RC.out.below hb)
          replace DY := Lib.hid (DY.out.below hb)
          replace V19 := Lib.hid (V19.out.below hb V19.out.lt)
          replace DZ := Lib.hid (DZ.out.below hb)
          replace BB := Lib.hid (BB.out.trans ((hb).mono BB.out.size))
          clear hb
          have V21 := Lib.hid (Blk.new W53 z.c 25)
          go_upto_region 17 with fail
          generalize World.alloc W53 _ = W54 at BB V5 V13 D1 DX RC DY V19 DZ V21 ⊢
          generalize W53.heap.size = nV21 at V21 ⊢
          have c213 : W54.cell? ⟨nV21, 3, none⟩ = some (.bool true) := by rw [V21.out.cell 3]; show some (Value.bool z.st) = _; rw [hzs.out]
          have l21 := V21.out.lt
          go_wp2_with fail
          go_ret
          exact ⟨rfl, BB.out⟩
        | false =>
          rw [if_neg (by simp)]
          have QZ := Lib.hid (synced_run FZ.out QY.out hst)
          have nz : z.ns = d.ns := by rw [DZ.out.lens.1, FZ.out.2.2.2.2.2, ← DY.out.lens.1, NY.out]
          have NZ := Lib.hid nz
          have EZ := Lib.hid (fun j (hj : j < y.ns) => readB_synced FZ.out QY.out hst (k := j) (by have := DY.out.lens; omega))
          clear hst nz
          have hb := bel_alloc1 W53 (.cells z.c 25)
          replace V5 := Lib.hid (V5.out.below hb V5.out.lt)
          replace V13 := Lib.hid (V13.out.below hb V13.out.lt)
          replace D1 := Lib.hid (D1.out.below hb)
          replace DX := Lib.hid (DX.out.below hb)
          replace RC := Lib.hid (RC.out.below hb)
          replace DY := Lib.hid (DY.out.below hb)
          replace V19 := Lib.hid (V19.out.below hb V19.out.lt)
          replace DZ := Lib.hid (DZ.out.below hb)
          replace BB := Lib.hid (BB.out.trans ((hb).mono BB.out.size))
          clear hb
          have V21 := Lib.hid (Blk.new W53 z.c 25)
          go_upto_region 17 with fail
          generalize World.alloc W53 _ = W54 at BB V5 V13 D1 DX RC DY V19 DZ V21 ⊢
          generalize W53.heap.size = nV21 at V21 ⊢
          have c50 := V5.out.cell 0
          simp at c50
          have hml := D1.out.1.1.2.1
          have l5 := V5.out.lt
          go_wp2_with fail
          clear c50 l5
          go_loopw [23] (fun i wr => ∃ j : Nat, j ≤ d.ns ∧ i = .int .i64 j ∧ Hid (Blk wr nV5 d.c 25) ∧ Hid (Blk wr nV19 y.c 25) ∧ Hid (Blk wr nV21 z.c 25) ∧ Hid (DkOk wr y) ∧ Hid (DkOk wr z) ∧ Hid (Below w.heap.size w wr)) (fun i _ => d.ns - (intOf i).toNat)
          case atStart => exact ⟨0, by omega, rfl, V5, V19, V21, DY, DZ, BB⟩
          case round =>
            obtain ⟨j, hj, rfl, V5x, V19x, V21x, DYx, DZx, BBx⟩ := hrel
            clear V5 V13 V19 V21 D1 DX DY DZ RC BB
            have V5 := V5x; have V19 := V19x; have V21 := V21x; have DY := DYx; have DZ := DZx; have BB := BBx
            clear V5x V19x V21x DYx DZx BBx
            have c50 := V5.out.cell 0
            simp at c50
            have l5 := V5.out.lt
            by_cases hlt : j < d.ns
            case pos =>
              have hjy : j < y.ns := by rw [NY.out]; exact hlt
              have hjz : j < z.ns := by rw [NZ.out]; exact hlt
              have cV190 := V19.out.cell 0
              have cV191 := V19.out.cell 1
              have cV192 := V19.out.cell 2
              have cV193 := V19.out.cell 3
              have lV19 := V19.out.lt
              go_wp2_with fail
              refine (read_L y j _ DY QY hjy).mono ?_
              rintro e W71 ⟨⟨b1, o1, c1, rfl, h1, h2, h3, h4⟩, hb⟩
              replace V5 := Lib.hid (V5.out.below hb V5.out.lt)
              replace V19 := Lib.hid (V19.out.below hb V19.out.lt)
              replace V21 := Lib.hid (V21.out.below hb V21.out.lt)
              replace DY := Lib.hid (DY.out.below hb)
              replace DZ := Lib.hid (DZ.out.below hb)
              replace BB := Lib.hid (BB.out.trans ((hb).mono BB.out.size))
              clear hb
              have RD1 := Lib.hid (show RdOk _ b1 o1 (readB y j) from ⟨h1, h3⟩)
              have LD1 := Lib.hid h2
              clear h1 h2 h3 h4 c50 l5
              clear cV190 cV191 cV192 cV193 lV19
              have cV210 := V21.out.cell 0
              have cV211 := V21.out.cell 1
              have cV212 := V21.out.cell 2
              have cV213 := V21.out.cell 3
              have lV21 := V21.out.lt
              go_wp2_with fail
              refine (read_L z j _ DZ QZ hjz).mono ?_
              rintro e W72 ⟨⟨b2, o2, c2, rfl, h1, h2, h3, h4⟩, hb⟩
              replace V5 := Lib.hid (V5.out.below hb V5.out.lt)
              replace V19 := Lib.hid (V19.out.below hb V19.out.lt)
              replace V21 := Lib.hid (V21.out.below hb V21.out.lt)
              replace DY := Lib.hid (DY.out.below hb)
              replace DZ := Lib.hid (DZ.out.below hb)
              replace RD1 := Lib.hid (RD1.out.below hb)
              replace BB := Lib.hid (BB.out.trans ((hb).mono BB.out.size))
              clear hb
              clear cV210 cV211 cV212 cV213 lV21
              have cv1 := conv_srcW (show SrcW W72 (some ⟨b1, o1, none⟩) 128 c1 (readB y j) from .inl ⟨LD1.out.symm, .inr ⟨b1, o1, rfl, RD1.out.2, RD1.out.1⟩⟩)
              have cv2 := conv_srcW (show SrcW W72 (some ⟨b2, o2, none⟩) 128 c2 (readB z j) from .inl ⟨h2.symm, .inr ⟨b2, o2, rfl, h3, h1⟩⟩)
              rw [EZ.out j hjy] at cv2
              clear h1 h2 h3 h4
              go_wp2_with fail
              refine ⟨⟨j + 1, by omega, by go_num, V5, V19, V21, DY, DZ, BB⟩, ?_⟩
              simp only [intOf]; omega
            case neg =>
              have hzw : z.ws = [] := FZ.out.1
              have hnp : z.np = 0 := by rw [DZ.out.lens.2, hzw]; rfl
              have hch : chkE z.left z.rs z.ws = 0 := chk_yes (run_chk QZ.out)
              have c21 : wr.cell? ⟨nV21, 1, none⟩ = some (.slice z.pp 0 z.cp) := by rw [V21.out.cell 1]; show some (Value.slice z.pp z.np z.cp) = _; rw [hnp]
              have c20 : wr.cell? ⟨nV21, 0, none⟩ = some (.slice z.ps z.ns z.cs) := V21.out.cell 0
              have c22 : wr.cell? ⟨nV21, 2, none⟩ = some (.int .i64 z.left) := V21.out.cell 2
              have c23 : wr.cell? ⟨nV21, 3, none⟩ = some (.bool z.st) := V21.out.cell 3
              have l21 := V21.out.lt
              have DZ0 := Lib.hid (show DkOk wr ⟨z.ps, z.ns, z.cs, z.pp, 0, z.cp, z.left, z.st, z.rs, z.ws⟩ from by have := DZ.out; rw [← hnp]; exact this)
              have HCH := Lib.hid hch
              clear hzw hnp hch
              go_wp2_with fail
              refine (check_any z.ps z.ns z.cs z.pp 0 z.cp z.left z.st z.rs z.ws _ (Lib.hid DZ0.out.1)).mono ?_
              rintro e W81 ⟨rfl, hb⟩
              replace V21 := Lib.hid (V21.out.below hb V21.out.lt)
              replace DZ := Lib.hid (DZ.out.below hb)
              replace BB := Lib.hid (BB.out.trans ((hb).mono BB.out.size))
              clear hb
              rw [HCH.out]
              go_wp2_with fail
              go_ret
              exact ⟨rfl, BB.out⟩

namespace diskReads
theorem readable : ∀ t ∈ Try.f7.params.toList, Try.prog.readableRec t = true ∧ t < Try.prog.types.size := by
  rw [Try.params7]
  intro t ht
  simp only [List.mem_cons, List.not_mem_nil, or_false] at ht
  rcases ht with rfl | rfl | rfl | rfl | rfl
  all_goals exact ⟨by kernel_rfl, by decide +kernel⟩

set_option maxRecDepth 100000 in
theorem lifted (os : Os) (started : os.Started) (H : Type) (enc : TypeId × Value → H) :
    ReturnsInHanded {} Try.checked os 7 .any (Rows.diskReadsSpec.pre6 enc Try.prog Try.f7 Rows.diskReadsRow.domain false) (Rows.diskReadsSpec.post enc Try.prog Try.f7 false true false false) := by
  refine returnsInHanded_of_change (C := Try.checked) own_knob started (by kernel_rfl) Try.func7
    (ChangeSpec.witness6 (enc := enc) (C := Try.checked) false ⟨#[], #[.agg #[.slice none 0 0, .slice none 0 0, .int .i64 0, .bool false], .int .i64 0, .int .i64 0, .slice none 0 0, .slice none 0 0], []⟩ 8 (by kernel_rfl) (by kernel_rfl) (by kernel_rfl) (by kernel_rfl)) ?_
  intro W base args ds gs before hval0 hW hcnd _
  have hval : ∀ (j : Nat) t v, Try.f7.params[j]? = some t → args[j]? = some v → Value.okWide Try.prog W .any base t v := hval0
  have hW' := hW
  obtain ⟨p, q, hA0, hV, rfl, hfz, hnd⟩ := hW
  have hA : DataW.TrodAll enc Try.prog W 0 (fun _ => true) true Try.f7.params.toList args.toList ds p := hA0
  rw [Try.params7] at hA hval
  obtain ⟨v0, vs0, d0, ds0, p0, q0, hargs, rfl, rfl, h0, r0⟩ := trodAll_cons hA
  obtain ⟨v1, vs1, d1, ds1, p1, q1, rfl, rfl, rfl, h1, r1⟩ := trodAll_cons r0
  obtain ⟨v2, vs2, d2, ds2, p2, q2, rfl, rfl, rfl, h2, r2⟩ := trodAll_cons r1
  obtain ⟨v3, vs3, d3, ds3, p3, q3, rfl, rfl, rfl, h3, r3⟩ := trodAll_cons r2
  obtain ⟨v4, vs4, d4, ds4, p4, q4, rfl, rfl, rfl, h4, r4⟩ := trodAll_cons r3
  obtain ⟨rfl, rfl, rfl⟩ := trodAll_nil r4
  obtain rfl : args = #[v0, v1, v2, v3, v4] := by cases args; simp_all
  obtain ⟨rfl, rfl⟩ := trodVars_none hV
  obtain ⟨k0, rfl, hk0⟩ := open_dk (hval 0 25 v0 rfl rfl) h0
  obtain ⟨a1, rfl, rfl, rfl, w1⟩ := open_int Try.underlying3 (hval 1 3 v1 rfl rfl) h1
  obtain ⟨a2, rfl, rfl, rfl, w2⟩ := open_int Try.underlying3 (hval 2 3 v2 rfl rfl) h2
  obtain ⟨k3, rfl, hk3⟩ := open_row (hval 3 35 v3 rfl rfl) h3
  obtain ⟨k4, rfl, hk4⟩ := open_row (hval 4 35 v4 rfl rfl) h4
  clear hA0 hval0
  refine (diskReads_walk k0 a1 a2 k3 k4 W (Lib.hid hk0) (Lib.hid hk3) (Lib.hid hk4)).mono fun e W' ⟨he, hb⟩ => ?_
  subst he
  exact ⟨_, rfl, law_post laid_out readable rfl rfl Try.underlying4 hW' rfl rfl rfl hb⟩

theorem over : Rows.diskReadsRow.holds Try.pinned (OpenSpec.ofChange Rows.diskReadsSpec) :=
  OpenClaim.holds_of_wide 7 Try.f7 rfl rfl rfl rfl rfl rfl rfl ⟨rfl, rfl, rfl, rfl, rfl⟩ rfl rfl rfl rfl rfl (by kernel_rfl) Try.func7 (by kernel_rfl)
    (of_decide_eq_true (by kernel_rfl)) (by unfold Func.isWrapper; first | (rw [if_pos (by decide +kernel)]; kernel_rfl) | (rw [if_neg (by decide +kernel)]; exact ⟨rfl, rfl⟩))
    (fun os started H enc _ => lifted os started H enc)

/-- the statement -/
theorem proved : Rows.DiskReadsSaid := over
end diskReads
end Go.Proofs.Ytackklbifppfeaa
