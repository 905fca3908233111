/- For every list its digest is that of the node of both of its halves, or of the leaf, or of nothing. No condition. -/
import Derived.Test.YtmheblpgofeafaaDoorDigSane
import Derived.Test.YtmheblpgofeafaaDoorDigSt
import Derived.Test.YtmheblpgofeafaaDoorDigDet
import Derived.Test.YtmheblpgofeafaaDoorRegU
import Derived.Test.YtmheblpgofeafaaDoorDigCard2
namespace Go.Proofs.YtmheblpgofeafaaDoor
open Go.ChangeShapes Go.WideShapes Go.ChangeAt Go.RowKit Go.WideElems
set_option linter.unusedVariables false
set_option linter.unusedSimpArgs false

set_option maxRecDepth 100000 in
set_option maxHeartbeats 8000000 in
theorem digestHalves_walk (p : Option Addr) (m cap : Nat) (bs : List Int) (w : World) (hz : Hid (SrcW w p m cap bs)) (hr : Hid (∀ z ∈ bs, 0 ≤ z ∧ z ≤ 255)) (hm : m ≤ 9223372036854775807) (hk : Hid (KeysAt w)) :
    Calls Tryd.prog 7 #[.slice p m cap] w fun e w' => e = .returned (.bool true) ∧ Below w.heap.size w w' := by
  go_enter Tryd.func7, Tryd.ntmps7
  go_wp2_with fail
  refine (dsane_any w hk).mono ?_; rintro e w1 ⟨rfl, hb⟩
  have B1 := Lib.hid hb; clear hb
  go_wp2_with fail
  refine (digestsOf_any p m cap bs w1 (Lib.hid (hz.out.below B1.out)) hr hm).mono ?_
  rintro e w2 ⟨lb, lcap, rfl, hl1, hl2, hl3, hl4, hl5, hb5⟩
  have B2 := Lib.hid (B1.out.trans (hb5.mono B1.out.size))
  have hLr := Lib.hid (dgs_rng bs (min m 24) (by omega))
  have hLl := Lib.hid (dgs_len bs (min m 24))
  have hLB := Lib.hid hl5
  have hn24 : min m 24 ≤ 24 := by omega
  obtain ⟨n, hn⟩ : ∃ n, min m 24 = n := ⟨_, rfl⟩
  rw [hn] at hLr hLl hLB hn24 hl3 ⊢
  obtain ⟨L, hL⟩ : ∃ L, dgs bs n = L := ⟨_, rfl⟩
  rw [hL] at hLr hLl hLB
  have hml : maxLen ≤ 9223372036854775807 := by decide
  clear hl5 hb5 B1 hn hl1 hL
  obtain ⟨ds, hds⟩ := isTree_ex n L hLl.out
  have HT := Lib.hid hds
  have EQ := eqDig_same ds hds.len
  have SD : Hid (SrcD w2 (some ⟨lb, 0, none⟩) n lcap L) := Lib.hid ⟨hLl.out, hl3, hl4, .inr ⟨lb, 0, rfl, hl2, hLB.out⟩⟩
  clear hds
  rcases (by omega : n = 0 ∨ n = 1 ∨ 1 < n) with rfl | rfl | h1n
  · have HE := Lib.hid HT.out.zero_inv
    obtain ⟨ts, hts, hss⟩ := HE.out
    have HTS := Lib.hid hts
    have HSS := Lib.hid hss
    clear hts hss
    go_wp2_with fail
    refine (tree_any 0 L ds HT.out (some ⟨lb, 0, none⟩) lcap w2 SD hLr (by omega) (Lib.hid (hk.out.below B2.out))).mono ?_
    rintro e w3 ⟨rfl, hb3⟩
    have B3 := Lib.hid (B2.out.trans (hb3.mono B2.out.size))
    clear hb3
    go_wp2_with fail
    refine (tagged_any sEmpty none 0 0 [] w3 (Lib.hid (.inl ⟨rfl, .inl ⟨rfl, rfl, rfl⟩⟩)) (Lib.hid (by simp)) (by decide) (by decide) (Lib.hid (hk.out.below B3.out)) ts ds HTS HSS).mono ?_
    rintro e w4 ⟨rfl, hb4⟩
    have B4 := Lib.hid (B3.out.trans (hb4.mono B3.out.size))
    clear hb4
    go_wp2_with fail
    go_ret
    exact ⟨rfl, B4.out⟩
  · have HE := Lib.hid HT.out.one_inv
    obtain ⟨ts, hts, hss⟩ := HE.out
    have HTS := Lib.hid hts
    have HSS := Lib.hid hss
    clear hts hss
    go_upto_region 8 with fail
    refine wp_region_any (by kernel_rfl) ?_
    change wpAny _ _ _ _ _ _ _ (World.drew _)
    generalize hWD : w2.drew = WD
    have SD2 := Lib.hid (show SrcD WD (some ⟨lb, 0, none⟩) 1 lcap L by rw [← hWD]; exact SD.out)
    have B3 := Lib.hid (show Below w.heap.size w WD by rw [← hWD]; exact B2.out.drew)
    have hLB2 := Lib.hid (show BytesAt WD lb 0 L by rw [← hWD]; exact hLB.out)
    clear hWD SD B2 hLB
    refine region_E [7] ?_
    have hl2' : lb < WD.heap.size := by obtain ⟨_, _, _, h | ⟨b, o, e, h, _⟩⟩ := SD2.out
                                        · omega
                                        · cases e; exact h
    refine anyU_takeD (i := 0) (v := .slice (some ⟨lb, 0, none⟩) 1 lcap) 21 rfl rfl (by kernel_rfl) (by kernel_rfl) (by kernel_rfl) (fun _ _ _ h => h) (by kernel_rfl) (Ext.stable _) (fun _ h => h) (yieldsU_val rfl (fun u hu => by rfl)) ?_
    refine anyU_takeD (i := 1) (v := .agg (bv ds).toArray) 22 rfl rfl (by kernel_rfl) (by kernel_rfl) (by kernel_rfl) (fun _ _ _ h => h) (by kernel_rfl) (Ext.stable _) (fun _ h => h) (yieldsU_call rfl 19 _ _ rfl #[.slice (some ⟨lb, 0, none⟩) 1 lcap] (by simp [Act.eval, Act.put]) (fun u => by go_simp) (fun u hu => tree_any 1 L ds HT.out (some ⟨lb, 0, none⟩) lcap u (Lib.hid (SD2.out.below hu)) hLr (by omega) (Lib.hid (hk.out.below (B3.out.trans (hu.mono B3.out.size)))))) ?_
    refine anyU_takeD (i := 2) (v := .slice (some ⟨lb, 0, none⟩) 1 lcap) 23 rfl rfl (by kernel_rfl) (by kernel_rfl) (by kernel_rfl) (fun _ _ _ h => h) (by kernel_rfl) (Ext.stable _) (fun _ h => h) (yieldsU_val rfl (fun u hu => by rfl)) ?_
    refine anyU_takeD (i := 3) (v := .pointer (some ⟨lb, 0, none⟩)) 24 rfl rfl (by kernel_rfl) (by kernel_rfl) (by kernel_rfl) (fun _ _ _ h => h) (by kernel_rfl) (Ext.stable _) (fun _ h => h) (yieldsU_val rfl (fun u hu => by go_simp)) ?_
    refine anyU_takeD (i := 4) (v := .slice (some ⟨lb, 0, none⟩) 32 32) 25 rfl rfl (by kernel_rfl) (by kernel_rfl) (by kernel_rfl) (fun _ _ _ h => h) (by kernel_rfl) (Ext.stable _) (fun _ h => h) (yieldsU_val rfl (fun u hu => by go_simp)) ?_
    refine anyU_takeD (i := 5) (v := .agg (bv ds).toArray) 26 rfl rfl (by kernel_rfl) (by kernel_rfl) (by kernel_rfl) (fun _ _ _ h => h) (by kernel_rfl) (Ext.stable _) (fun _ h => h) (yieldsU_call rfl 16 _ _ rfl #[.string sLeaf, .slice (some ⟨lb, 0, none⟩) 32 32] (by simp [Act.eval, Act.put]) (fun u => by go_simp) (fun u hu => tagged_any sLeaf (some ⟨lb, 0, none⟩) 32 32 L u (Lib.hid (.inl ⟨hLl.out.symm, .inr ⟨lb, 0, rfl, Nat.lt_of_lt_of_le hl2' hu.size, hLB2.out.below hu hl2'⟩⟩)) hLr (by decide) (by decide) (Lib.hid (hk.out.below (B3.out.trans (hu.mono B3.out.size)))) ts ds HTS HSS)) ?_
    refine anyU_takeD (i := 6) (v := .bool true) 27 rfl rfl (by kernel_rfl) (by kernel_rfl) (by kernel_rfl) (fun _ _ _ h => h) (by kernel_rfl) (Ext.stable _) (fun _ h => h) (yieldsU_val rfl (fun u hu => by go_simp)) ?_
    refine anyU_tail 7 [] rfl rfl (by decide) (by kernel_rfl) ?_
    intro w4 h4
    have B4 := Lib.hid (B3.out.trans (h4.mono B3.out.size))
    clear h4
    simp only [Act.put, List.filterMap_cons, List.filterMap_nil, List.getElem?_cons_succ, List.getElem?_cons_zero]
    go_wp2_with fail
    go_ret
    exact ⟨rfl, B4.out⟩
  · obtain ⟨xs, ys, hx, hy, htag⟩ := HT.out.node_inv h1n
    obtain ⟨sp, hsp⟩ : ∃ k, spN n = k := ⟨_, rfl⟩
    rw [hsp] at hx hy
    have HX := Lib.hid hx
    have HY := Lib.hid hy
    have HSP := Lib.hid hsp
    have sp0 : 0 < sp := by rw [← hsp]; exact spN_pos n
    have sp1 : sp < n := by rw [← hsp]; exact spN_lt h1n
    obtain ⟨ts, hts, hss⟩ := htag
    have HTS := Lib.hid hts
    have HSS := Lib.hid hss
    clear hts hss hx hy hsp
    go_wp2_with fail
    go_loop [4] (fun x => ∃ (kk j : Nat), x = .int .i64 kk ∧ Hid (kk = 2 ^ j) ∧ kk < n ∧ 0 < kk) (fun x => n - (intOf x).toNat)
    case atStart => exact ⟨1, 0, rfl, Lib.hid rfl, by omega, by omega⟩
    case round =>
      obtain ⟨kk, j, rfl, hkj, hkn, hk0⟩ := hrel
      by_cases hlt : 2 * kk < n
      · go_wp2_with fail
        go_round
        case rel => exact ⟨kk * 2, j + 1, by go_num, Lib.hid (by rw [Nat.pow_succ, hkj.out]), by omega, by omega⟩
        case measure => simp [intOf]; omega
      · have hks : kk = sp := by rw [← HSP.out]; exact spN_uniq h1n hkj.out hkn (by omega)
        subst hks
        clear hkj HSP
        go_upto_region 12 with fail
        refine wp_region_any (by kernel_rfl) ?_
        change wpAny _ _ _ _ _ _ _ (World.drew _)
        generalize hWD : w2.drew = WD
        have SD2 := Lib.hid (show SrcD WD (some ⟨lb, 0, none⟩) n lcap L by rw [← hWD]; exact SD.out)
        have B3 := Lib.hid (show Below w.heap.size w WD by rw [← hWD]; exact B2.out.drew)
        have hLB2 := Lib.hid (show BytesAt WD lb 0 L by rw [← hWD]; exact hLB.out)
        clear hWD SD B2 hLB
        refine region_E [10] ?_
        have hl2' : lb < WD.heap.size := by obtain ⟨_, _, _, h | ⟨b, o, e, h, _⟩⟩ := SD2.out
                                            · omega
                                            · cases e; exact h
        have s2 : ¬ (lcap = kk) := by omega
        have s3 : (kk : Int) ≤ (lcap : Int) := by omega
        have s4 : (kk : Int) ≤ (n : Int) := by omega
        refine anyU_takeD (i := 0) (v := .slice (some ⟨lb, 0, none⟩) n lcap) 35 rfl rfl (by kernel_rfl) (by kernel_rfl) (by kernel_rfl) (fun _ _ _ h => h) (by kernel_rfl) (Ext.stable _) (fun _ h => h) (yieldsU_val rfl (fun u hu => by rfl)) ?_
        refine anyU_takeD (i := 1) (v := .int .i64 kk) 36 rfl rfl (by kernel_rfl) (by kernel_rfl) (by kernel_rfl) (fun _ _ _ h => h) (by kernel_rfl) (Ext.stable _) (fun _ h => h) (yieldsU_val rfl (fun u hu => by rfl)) ?_
        refine anyU_takeD (i := 2) (v := .slice (some ⟨lb, 0, none⟩) kk lcap) 37 rfl rfl (by kernel_rfl) (by kernel_rfl) (by kernel_rfl) (fun _ _ _ h => h) (by kernel_rfl) (Ext.stable _) (fun _ h => h) (yieldsU_val rfl (fun u hu => by go_simp)) ?_
        refine anyU_takeD (i := 3) (v := .agg (bv xs).toArray) 38 rfl rfl (by kernel_rfl) (by kernel_rfl) (by kernel_rfl) (fun _ _ _ h => h) (by kernel_rfl) (Ext.stable _) (fun _ h => h) (yieldsU_call rfl 19 _ _ rfl #[.slice (some ⟨lb, 0, none⟩) kk lcap] (by simp [Act.eval, Act.put]) (fun u => by go_simp) (fun u hu => tree_any kk _ xs HX.out (some ⟨lb, 0, none⟩) lcap u (Lib.hid ⟨by rw [List.length_take, hLl.out]; omega, by omega, hl4, .inr ⟨lb, 0, rfl, Nat.lt_of_lt_of_le hl2' hu.size, (hLB2.out.below hu hl2').take _⟩⟩) (Lib.hid fun z hz => hLr.out z (List.mem_of_mem_take hz)) (by omega) (Lib.hid (hk.out.below (B3.out.trans (hu.mono B3.out.size)))))) ?_
        refine anyU_takeD (i := 4) (v := .slice (some ⟨lb, 0, none⟩) n lcap) 39 rfl rfl (by kernel_rfl) (by kernel_rfl) (by kernel_rfl) (fun _ _ _ h => h) (by kernel_rfl) (Ext.stable _) (fun _ h => h) (yieldsU_val rfl (fun u hu => by rfl)) ?_
        refine anyU_takeD (i := 5) (v := .int .i64 kk) 40 rfl rfl (by kernel_rfl) (by kernel_rfl) (by kernel_rfl) (fun _ _ _ h => h) (by kernel_rfl) (Ext.stable _) (fun _ h => h) (yieldsU_val rfl (fun u hu => by rfl)) ?_
        refine anyU_takeD (i := 6) (v := .slice (some ⟨lb, 32 * kk, none⟩) (n - kk) (lcap - kk)) 41 rfl rfl (by kernel_rfl) (by kernel_rfl) (by kernel_rfl) (fun _ _ _ h => h) (by kernel_rfl) (Ext.stable _) (fun _ h => h) (yieldsU_val rfl (fun u hu => by go_simp)) ?_
        refine anyU_takeD (i := 7) (v := .agg (bv ys).toArray) 42 rfl rfl (by kernel_rfl) (by kernel_rfl) (by kernel_rfl) (fun _ _ _ h => h) (by kernel_rfl) (Ext.stable _) (fun _ h => h) (yieldsU_call rfl 19 _ _ rfl #[.slice (some ⟨lb, 32 * kk, none⟩) (n - kk : Nat) (lcap - kk : Nat)] (by simp [Act.eval, Act.put]) (fun u => by go_simp) (fun u hu => tree_any (n - kk) _ ys HY.out (some ⟨lb, 32 * kk, none⟩) (lcap - kk) u (Lib.hid ⟨by rw [List.length_drop, hLl.out]; omega, by omega, by omega, .inr ⟨lb, 32 * kk, rfl, Nat.lt_of_lt_of_le hl2' hu.size, by have := (hLB2.out.below hu hl2').drop (32 * kk); rwa [Nat.zero_add] at this⟩⟩) (Lib.hid fun z hz => hLr.out z (List.mem_of_mem_drop hz)) (by omega) (Lib.hid (hk.out.below (B3.out.trans (hu.mono B3.out.size)))))) ?_
        refine anyU_two 8 9 3 _ _ rfl rfl rfl rfl (by kernel_rfl) ?r1 ?r2
        case r1 =>
          intro w3 h3
          go_wp2_with fail
          change ∃ C' : World → Prop, _ ∧ _ ∧ _ ∧ anyU _ _ _ _ _ _ 3 _ _ _
          refine anchor (Ext.alloc h3 _) ?_
          generalize hA : World.alloc _ _ = WA
          have PA := Lib.hid (show Dg WA w3.heap.size (List.replicate 32 0) by rw [← hA]; exact Dg.new w3)
          have EA := Lib.hid (show Ext WD WA by rw [← hA]; exact Ext.alloc h3 _)
          have lba : WD.heap.size ≤ w3.heap.size := h3.size
          clear hA h3
          obtain ⟨ba, hba⟩ : ∃ b, w3.heap.size = b := ⟨_, rfl⟩
          rw [hba] at PA lba ⊢
          clear hba
          refine anyU_one 9 2 _ rfl rfl (by kernel_rfl) ?_
          intro w4 h4
          go_wp2_with fail
          change ∃ C' : World → Prop, _ ∧ _ ∧ _ ∧ anyU _ _ _ _ _ _ 2 _ _ _
          refine anchor (Ext.alloc (EA.out.trans h4) _) ?_
          generalize hA : World.alloc _ _ = WB
          have PA2 := Lib.hid (show Dg WB ba (List.replicate 32 0) by rw [← hA]; exact (PA.out.bel h4).alloc _)
          have PB := Lib.hid (show Dg WB w4.heap.size (List.replicate 32 0) by rw [← hA]; exact Dg.new w4)
          have EB := Lib.hid (show Ext WD WB by rw [← hA]; exact Ext.alloc (EA.out.trans h4) _)
          have lbb : ba < w4.heap.size := Nat.lt_of_lt_of_le PA.out.lt h4.size
          clear hA h4 PA EA
          obtain ⟨bb, hbb⟩ : ∃ b, w4.heap.size = b := ⟨_, rfl⟩
          rw [hbb] at PB lbb ⊢
          clear hbb
          refine anyU_tail 10 [11] rfl rfl (by decide) (by kernel_rfl) ?_
          intro w5 h5
          simp only [Act.put, List.filterMap_cons, List.filterMap_nil, List.getElem?_cons_succ, List.getElem?_cons_zero]
          refine list_storeD rfl (.tmp 5) (.tmp 38) rfl ba rfl xs rfl HX.out.len _ (PA2.out.bel h5) ?_
          intro w6 d6 k6
          refine list_storeD rfl (.tmp 6) (.tmp 42) rfl bb rfl ys rfl HY.out.len _ ((PB.out.bel h5).wrote k6 (by omega)) ?_
          intro w7 d7 k7
          have X7 := Lib.hid (d6.wrote k7 (by omega))
          have Y7 := Lib.hid d7
          have E7 := Lib.hid (show Ext WD w7 from Below.trans (Ext.trans EB.out h5) ((k6.below (Nat.le_trans lba (by omega))).trans (k7.below (Nat.le_trans lba (by omega)))))
          clear d6 k6 d7 k7 h5 PA2 PB EB
          obtain ⟨xb, hxb⟩ : ∃ b, ba = b := ⟨_, rfl⟩
          obtain ⟨yb, hyb⟩ : ∃ b, bb = b := ⟨_, rfl⟩
          rw [hxb] at X7 ⊢
          rw [hyb] at Y7 ⊢
          clear hxb hyb lbb lba
          (try simp only [Act.put])
          go_upto_region 13 with fail
          refine wp_region_any (by kernel_rfl) ?_
          change wpAny _ _ _ _ _ _ _ (World.drew _)
          generalize hWD : w7.drew = WE
          have X8 := Lib.hid (show Dg WE xb xs by rw [← hWD]; exact X7.out)
          have Y8 := Lib.hid (show Dg WE yb ys by rw [← hWD]; exact Y7.out)
          have E8 := Lib.hid (show Ext WD WE by rw [← hWD]; exact Below.drew E7.out)
          clear hWD X7 Y7 E7
          have B8 := Lib.hid (B3.out.trans (Below.mono E8.out B3.out.size))
          have SD8 := Lib.hid (SD2.out.below E8.out)
          clear B3 SD2 hLB2 E8
          refine region_E [6] ?_
          refine anyU_takeD (i := 0) (v := .slice (some ⟨lb, 0, none⟩) n lcap) 43 rfl rfl (by kernel_rfl) (by kernel_rfl) (by kernel_rfl) (fun _ _ _ h => h) (by kernel_rfl) (Ext.stable _) (fun _ h => h) (yieldsU_val rfl (fun u hu => by rfl)) ?_
          refine anyU_takeD (i := 1) (v := .agg (bv ds).toArray) 44 rfl rfl (by kernel_rfl) (by kernel_rfl) (by kernel_rfl) (fun _ _ _ h => h) (by kernel_rfl) (Ext.stable _) (fun _ h => h) (yieldsU_call rfl 19 _ _ rfl #[.slice (some ⟨lb, 0, none⟩) n lcap] (by simp [Act.eval, Act.put]) (fun u => by go_simp) (fun u hu => tree_any n L ds HT.out (some ⟨lb, 0, none⟩) lcap u (Lib.hid (SD8.out.below hu)) hLr (by omega) (Lib.hid (hk.out.below (B8.out.trans (hu.mono B8.out.size)))))) ?_
          refine anyU_takeD (i := 3) (v := .slice (some ⟨xb, 0, none⟩) 32 32) 46 rfl rfl (by kernel_rfl) (by kernel_rfl) (by kernel_rfl) (fun _ _ _ h => h) (by kernel_rfl) (Ext.stable _) (fun _ h => h) (yieldsU_val rfl (fun u hu => by go_simp)) ?_
          refine anyU_takeD (i := 5) (v := .slice (some ⟨yb, 0, none⟩) 32 32) 48 rfl rfl (by kernel_rfl) (by kernel_rfl) (by kernel_rfl) (fun _ _ _ h => h) (by kernel_rfl) (Ext.stable _) (fun _ h => h) (yieldsU_val rfl (fun u hu => by go_simp)) ?_
          refine anyU_one 2 5 _ rfl rfl (by kernel_rfl) ?_
          intro w8 h8
          go_wp2_with fail
          change ∃ C' : World → Prop, _ ∧ _ ∧ _ ∧ anyU _ _ _ _ _ _ 5 _ _ _
          refine anchor (Ext.alloc h8 _) ?_
          generalize hA : World.alloc _ _ = WG
          have G9 := Lib.hid (show Blk WG w8.heap.size #[] 5 by rw [← hA]; exact Blk.emp w8)
          have X9 := Lib.hid (show Dg WG xb xs by rw [← hA]; exact (X8.out.bel h8).alloc _)
          have Y9 := Lib.hid (show Dg WG yb ys by rw [← hA]; exact (Y8.out.bel h8).alloc _)
          have E9 := Lib.hid (show Ext WE WG by rw [← hA]; exact Ext.alloc h8 _)
          have lxe : xb < w8.heap.size := Nat.lt_of_lt_of_le X8.out.lt h8.size
          have lye : yb < w8.heap.size := Nat.lt_of_lt_of_le Y8.out.lt h8.size
          have lee : WE.heap.size ≤ w8.heap.size := h8.size
          clear hA h8 X8 Y8
          obtain ⟨eb, heb⟩ : ∃ b, w8.heap.size = b := ⟨_, rfl⟩
          rw [heb] at G9 lxe lye lee ⊢
          clear heb
          refine anyU_one 4 4 _ rfl rfl (by kernel_rfl) ?_
          intro w9 h9
          refine list_appA (by rfl) (.tmp 45) (.tmp 46) rfl eb xb rfl (G9.out.below h9 G9.out.lt) rfl xs (X9.out.bel h9) ?_
          intro v1 u1 o1 g1 b1
          change ∃ C' : World → Prop, _ ∧ _ ∧ _ ∧ anyU _ _ _ _ _ _ 4 _ _ _
          refine anchorF (fun u => Own8 u eb v1 xs ∧ Dg u yb ys ∧ Below WE.heap.size WE u ∧ eb ≤ u.heap.size) (fun u hu => hu.2.2.1) (fun u u' h k => ⟨own8_below h.1 k, h.2.1.bel k, h.2.2.1.trans (k.mono h.2.2.1.size), Nat.le_trans h.2.2.2 k.size⟩) ⟨o1, (Y9.out.bel h9).below b1 lye, Below.trans (Ext.trans E9.out h9) (b1.mono lee), g1⟩ ?_
          clear o1 g1 b1 h9 G9 X9 Y9 E9
          (try simp only [Act.put])
          refine anyU_tail 6 [7, 8, 9] rfl rfl (by decide) (by kernel_rfl) ?_
          intro w10 h10
          obtain ⟨o10, y10, e10, g10⟩ := h10
          simp only [Act.put, List.filterMap_cons, List.filterMap_nil, List.getElem?_cons_succ, List.getElem?_cons_zero]
          refine list_appB (by rfl) (.tmp 47) (.tmp 48) rfl eb yb v1 rfl xs o10 HX.out.len g10 rfl ys y10 ?_
          intro p2 c2 u2 s2 hc2 hm2 b2
          have S2 := Lib.hid s2
          have B10 := Lib.hid (B8.out.trans ((e10.trans (b2.mono lee)).mono B8.out.size))
          clear s2 b2 o10 y10 e10 g10
          (try simp only [Act.put])
          go_wp2_with fail
          refine (tagged_any sNode p2 64 c2 (xs ++ ys) u2 (Lib.hid (.inl S2.out)) (Lib.hid (rng_append HX.out.rng HY.out.rng)) (by decide) (by omega) (Lib.hid (hk.out.below B10.out)) ts ds HTS HSS).mono ?_
          rintro e w11 ⟨rfl, hb11⟩
          have B11 := Lib.hid (B10.out.trans (hb11.mono B10.out.size))
          clear hb11
          go_wp2_with fail
          go_ret
          exact ⟨rfl, B11.out⟩
        case r2 =>
          intro w3 h3
          go_wp2_with fail
          change ∃ C' : World → Prop, _ ∧ _ ∧ _ ∧ anyU _ _ _ _ _ _ 3 _ _ _
          refine anchor (Ext.alloc h3 _) ?_
          generalize hA : World.alloc _ _ = WA
          have PA := Lib.hid (show Dg WA w3.heap.size (List.replicate 32 0) by rw [← hA]; exact Dg.new w3)
          have EA := Lib.hid (show Ext WD WA by rw [← hA]; exact Ext.alloc h3 _)
          have lba : WD.heap.size ≤ w3.heap.size := h3.size
          clear hA h3
          obtain ⟨ba, hba⟩ : ∃ b, w3.heap.size = b := ⟨_, rfl⟩
          rw [hba] at PA lba ⊢
          clear hba
          refine anyU_one 8 2 _ rfl rfl (by kernel_rfl) ?_
          intro w4 h4
          go_wp2_with fail
          change ∃ C' : World → Prop, _ ∧ _ ∧ _ ∧ anyU _ _ _ _ _ _ 2 _ _ _
          refine anchor (Ext.alloc (EA.out.trans h4) _) ?_
          generalize hA : World.alloc _ _ = WB
          have PA2 := Lib.hid (show Dg WB ba (List.replicate 32 0) by rw [← hA]; exact (PA.out.bel h4).alloc _)
          have PB := Lib.hid (show Dg WB w4.heap.size (List.replicate 32 0) by rw [← hA]; exact Dg.new w4)
          have EB := Lib.hid (show Ext WD WB by rw [← hA]; exact Ext.alloc (EA.out.trans h4) _)
          have lbb : ba < w4.heap.size := Nat.lt_of_lt_of_le PA.out.lt h4.size
          clear hA h4 PA EA
          obtain ⟨bb, hbb⟩ : ∃ b, w4.heap.size = b := ⟨_, rfl⟩
          rw [hbb] at PB lbb ⊢
          clear hbb
          refine anyU_tail 10 [11] rfl rfl (by decide) (by kernel_rfl) ?_
          intro w5 h5
          simp only [Act.put, List.filterMap_cons, List.filterMap_nil, List.getElem?_cons_succ, List.getElem?_cons_zero]
          refine list_storeD rfl (.tmp 5) (.tmp 38) rfl bb rfl xs rfl HX.out.len _ (PB.out.bel h5) ?_
          intro w6 d6 k6
          refine list_storeD rfl (.tmp 6) (.tmp 42) rfl ba rfl ys rfl HY.out.len _ ((PA2.out.bel h5).wrote k6 (by omega)) ?_
          intro w7 d7 k7
          have X7 := Lib.hid (d6.wrote k7 (by omega))
          have Y7 := Lib.hid d7
          have E7 := Lib.hid (show Ext WD w7 from Below.trans (Ext.trans EB.out h5) ((k6.below (Nat.le_trans lba (by omega))).trans (k7.below (Nat.le_trans lba (by omega)))))
          clear d6 k6 d7 k7 h5 PA2 PB EB
          obtain ⟨xb, hxb⟩ : ∃ b, bb = b := ⟨_, rfl⟩
          obtain ⟨yb, hyb⟩ : ∃ b, ba = b := ⟨_, rfl⟩
          rw [hxb] at X7 ⊢
          rw [hyb] at Y7 ⊢
          clear hxb hyb lbb lba
          (try simp only [Act.put])
          go_upto_region 13 with fail
          refine wp_region_any (by kernel_rfl) ?_
          change wpAny _ _ _ _ _ _ _ (World.drew _)
          generalize hWD : w7.drew = WE
          have X8 := Lib.hid (show Dg WE xb xs by rw [← hWD]; exact X7.out)
          have Y8 := Lib.hid (show Dg WE yb ys by rw [← hWD]; exact Y7.out)
          have E8 := Lib.hid (show Ext WD WE by rw [← hWD]; exact Below.drew E7.out)
          clear hWD X7 Y7 E7
          have B8 := Lib.hid (B3.out.trans (Below.mono E8.out B3.out.size))
          have SD8 := Lib.hid (SD2.out.below E8.out)
          clear B3 SD2 hLB2 E8
          refine region_E [6] ?_
          refine anyU_takeD (i := 0) (v := .slice (some ⟨lb, 0, none⟩) n lcap) 43 rfl rfl (by kernel_rfl) (by kernel_rfl) (by kernel_rfl) (fun _ _ _ h => h) (by kernel_rfl) (Ext.stable _) (fun _ h => h) (yieldsU_val rfl (fun u hu => by rfl)) ?_
          refine anyU_takeD (i := 1) (v := .agg (bv ds).toArray) 44 rfl rfl (by kernel_rfl) (by kernel_rfl) (by kernel_rfl) (fun _ _ _ h => h) (by kernel_rfl) (Ext.stable _) (fun _ h => h) (yieldsU_call rfl 19 _ _ rfl #[.slice (some ⟨lb, 0, none⟩) n lcap] (by simp [Act.eval, Act.put]) (fun u => by go_simp) (fun u hu => tree_any n L ds HT.out (some ⟨lb, 0, none⟩) lcap u (Lib.hid (SD8.out.below hu)) hLr (by omega) (Lib.hid (hk.out.below (B8.out.trans (hu.mono B8.out.size)))))) ?_
          refine anyU_takeD (i := 3) (v := .slice (some ⟨xb, 0, none⟩) 32 32) 46 rfl rfl (by kernel_rfl) (by kernel_rfl) (by kernel_rfl) (fun _ _ _ h => h) (by kernel_rfl) (Ext.stable _) (fun _ h => h) (yieldsU_val rfl (fun u hu => by go_simp)) ?_
          refine anyU_takeD (i := 5) (v := .slice (some ⟨yb, 0, none⟩) 32 32) 48 rfl rfl (by kernel_rfl) (by kernel_rfl) (by kernel_rfl) (fun _ _ _ h => h) (by kernel_rfl) (Ext.stable _) (fun _ h => h) (yieldsU_val rfl (fun u hu => by go_simp)) ?_
          refine anyU_one 2 5 _ rfl rfl (by kernel_rfl) ?_
          intro w8 h8
          go_wp2_with fail
          change ∃ C' : World → Prop, _ ∧ _ ∧ _ ∧ anyU _ _ _ _ _ _ 5 _ _ _
          refine anchor (Ext.alloc h8 _) ?_
          generalize hA : World.alloc _ _ = WG
          have G9 := Lib.hid (show Blk WG w8.heap.size #[] 5 by rw [← hA]; exact Blk.emp w8)
          have X9 := Lib.hid (show Dg WG xb xs by rw [← hA]; exact (X8.out.bel h8).alloc _)
          have Y9 := Lib.hid (show Dg WG yb ys by rw [← hA]; exact (Y8.out.bel h8).alloc _)
          have E9 := Lib.hid (show Ext WE WG by rw [← hA]; exact Ext.alloc h8 _)
          have lxe : xb < w8.heap.size := Nat.lt_of_lt_of_le X8.out.lt h8.size
          have lye : yb < w8.heap.size := Nat.lt_of_lt_of_le Y8.out.lt h8.size
          have lee : WE.heap.size ≤ w8.heap.size := h8.size
          clear hA h8 X8 Y8
          obtain ⟨eb, heb⟩ : ∃ b, w8.heap.size = b := ⟨_, rfl⟩
          rw [heb] at G9 lxe lye lee ⊢
          clear heb
          refine anyU_one 4 4 _ rfl rfl (by kernel_rfl) ?_
          intro w9 h9
          refine list_appA (by rfl) (.tmp 45) (.tmp 46) rfl eb xb rfl (G9.out.below h9 G9.out.lt) rfl xs (X9.out.bel h9) ?_
          intro v1 u1 o1 g1 b1
          change ∃ C' : World → Prop, _ ∧ _ ∧ _ ∧ anyU _ _ _ _ _ _ 4 _ _ _
          refine anchorF (fun u => Own8 u eb v1 xs ∧ Dg u yb ys ∧ Below WE.heap.size WE u ∧ eb ≤ u.heap.size) (fun u hu => hu.2.2.1) (fun u u' h k => ⟨own8_below h.1 k, h.2.1.bel k, h.2.2.1.trans (k.mono h.2.2.1.size), Nat.le_trans h.2.2.2 k.size⟩) ⟨o1, (Y9.out.bel h9).below b1 lye, Below.trans (Ext.trans E9.out h9) (b1.mono lee), g1⟩ ?_
          clear o1 g1 b1 h9 G9 X9 Y9 E9
          (try simp only [Act.put])
          refine anyU_tail 6 [7, 8, 9] rfl rfl (by decide) (by kernel_rfl) ?_
          intro w10 h10
          obtain ⟨o10, y10, e10, g10⟩ := h10
          simp only [Act.put, List.filterMap_cons, List.filterMap_nil, List.getElem?_cons_succ, List.getElem?_cons_zero]
          refine list_appB (by rfl) (.tmp 47) (.tmp 48) rfl eb yb v1 rfl xs o10 HX.out.len g10 rfl ys y10 ?_
          intro p2 c2 u2 s2 hc2 hm2 b2
          have S2 := Lib.hid s2
          have B10 := Lib.hid (B8.out.trans ((e10.trans (b2.mono lee)).mono B8.out.size))
          clear s2 b2 o10 y10 e10 g10
          (try simp only [Act.put])
          go_wp2_with fail
          refine (tagged_any sNode p2 64 c2 (xs ++ ys) u2 (Lib.hid (.inl S2.out)) (Lib.hid (rng_append HX.out.rng HY.out.rng)) (by decide) (by omega) (Lib.hid (hk.out.below B10.out)) ts ds HTS HSS).mono ?_
          rintro e w11 ⟨rfl, hb11⟩
          have B11 := Lib.hid (B10.out.trans (hb11.mono B10.out.size))
          clear hb11
          go_wp2_with fail
          go_ret
          exact ⟨rfl, B11.out⟩

namespace digestHalves
theorem readable : ∀ t ∈ Tryd.f7.params.toList, Tryd.prog.readableRec t = true ∧ t < Tryd.prog.types.size := by
  rw [Tryd.params7]
  intro t ht
  simp only [List.mem_cons, List.not_mem_nil, or_false] at ht
  rcases ht with rfl
  all_goals exact ⟨by kernel_rfl, by decide +kernel⟩

set_option maxRecDepth 100000 in
theorem lifted (os : Os) (started : os.Started) (H : Type) (enc : TypeId × Value → H) :
    ReturnsInHanded {} Tryd.checked os 7 .any (fun w args => (Rows.digestHalvesSpec.pre enc Tryd.prog Tryd.f7 [] false w args ∧ laidMetH Tryd.prog laidK w) ∧ sizedMet enc Tryd.prog Tryd.f7 (OpenSpec.ofChange Rows.digestHalvesSpec) false w args)
      (Rows.digestHalvesSpec.post enc Tryd.prog Tryd.f7 false true false false) := by
  refine returnsInHanded_of_change_and (C := Tryd.checked) (X := fun w _ => laidMetH Tryd.prog laidK w) (fun _ _ _ hh h => h.of_heap hh) own_knob started (by kernel_rfl) Tryd.func7
    (ChangeSpec.witness_shaped (enc := enc) (C := Tryd.checked) (os := os) (X := fun w _ => laidMetH Tryd.prog laidK w) false (World.doorLaid Tryd.prog 400 os) #[.slice none 0 0] 8 rfl (World.shaped_of_RefB (by kernel_rfl) (by kernel_rfl)) (by kernel_rfl) (by kernel_rfl) (by kernel_rfl) (door_met os _)) ?_
  intro W base args ds gs before hval0 hW _ _ hL _
  have hval : ∀ (j : Nat) t v, Tryd.f7.params[j]? = some t → args[j]? = some v → Value.okWide Tryd.prog W .any base t v := hval0
  have hW' := hW
  obtain ⟨p, q, hA0, hV, rfl, hfz, hnd⟩ := hW
  have hA : DataW.TrodAll enc Tryd.prog W 0 (fun _ => true) true Tryd.f7.params.toList args.toList ds p := hA0
  rw [Tryd.params7] at hA hval
  obtain ⟨v0, vs0, d0, ds0, p0, q0, hargs, rfl, rfl, h0, r0⟩ := trodAll_cons hA
  obtain ⟨rfl, rfl, rfl⟩ := trodAll_nil r0
  obtain rfl : args = #[v0] := by cases args; simp_all
  obtain ⟨rfl, rfl⟩ := trodVars_none hV
  obtain ⟨s0, n0, c0, z0, rfl, w0, x0, y0, u0⟩ := open_src Tryd.underlying22 Tryd.underlying5 (by kernel_rfl) (hval 0 22 v0 rfl rfl) h0
  have hK := of_laid hL
  clear hA0 hval0
  refine (digestHalves_walk s0 n0 c0 z0 W (Lib.hid w0) (Lib.hid x0) (by unfold maxLen at u0; omega) (Lib.hid hK)).mono fun e W' ⟨he, hb⟩ => ?_
  subst he
  exact ⟨_, rfl, law_post laid_out readable rfl rfl Tryd.underlying4 hW' rfl rfl rfl hb⟩

theorem over : Rows.digestHalvesRow.holds Tryd.pinned (OpenSpec.ofChange Rows.digestHalvesSpec) :=
  OpenClaim.holds_of_wide 7 Tryd.f7 rfl rfl rfl rfl rfl rfl rfl ⟨rfl, rfl, rfl, rfl, rfl⟩ rfl rfl rfl rfl rfl (by kernel_rfl) Tryd.func7 (by kernel_rfl)
    (of_decide_eq_true (by kernel_rfl)) (by unfold Func.isWrapper; first | (rw [if_pos (by decide +kernel)]; kernel_rfl) | (rw [if_neg (by decide +kernel)]; exact ⟨rfl, rfl⟩))
    (fun os started H enc _ => lifted os started H enc)

/-- the statement: the tied card -/
theorem proved : Rows.DigestHalvesCardSaid :=
  Claim7.holds_tied_plain_at .later [] [.data] true (true, "3cbd8a75db85d0d7a91da629822e7c026b5a1beeafa1458dde1bbca6aeb395d6") false
    over (fun _ h => by cases h) (by kernel_rfl) (fun _ h => by cases h) digestHalves_row_tie rfl ⟨rfl, rfl⟩ (by kernel_rfl) rfl
    (fun f fn hf hfn => by
      obtain rfl : f = 7 := Option.some.inj ((show Tryd.prog.funcNamed "franking/frankinglaw02.DigestHalves" = some 7 by kernel_rfl).symm.trans hf) |>.symm
      obtain rfl : fn = Tryd.f7 := (Option.some.inj (Tryd.func7.symm.trans hfn)).symm
      exact ⟨by kernel_rfl, fun j t ht => by
        rw [Tryd.params7] at ht
        have hm : t ∈ [22] := by simpa using Array.mem_of_getElem? ht
        have hall : ([22].all fun u => !Tryd.prog.wantsStandIn u) = true := by kernel_rfl
        exact (show Tryd.prog.wantsStandIn t = false by simpa using List.all_eq_true.1 hall t hm)⟩)
    (by kernel_rfl)
end digestHalves
end Go.Proofs.YtmheblpgofeafaaDoor
