/- The reference of layer 8: Head, Check. -/
import Derived.Test.YtllcgehfmkmcdaaDoorChnRTx
import Derived.Test.YtllcgehfmkmcdaaDoorChnPrt
namespace Go.Proofs.YtllcgehfmkmcdaaDoor
open Go.RowKit
set_option linter.unusedVariables false
set_option linter.unusedSimpArgs false

set_option maxRecDepth 100000 in
set_option maxHeartbeats 4000000 in
theorem rhead_nil (p : Option Addr) (n c : Nat) (ls : List Lk) (w : World) (hs : Hid (LksV w p n c ls)) (hsm : Hid (Small ls)) (ds : List Int) (hd : Hid (IsHead ls ds)) (hn : n = 0) :
    Calls Tryd.prog 24 #[.slice p n c] w fun e w' => e = .returned (.agg (bv ds).toArray) ∧ Below w.heap.size w w' := by
  obtain rfl : ls = [] := List.eq_nil_of_length_eq_zero (by rw [← hs.out.len]; exact hn)
  subst hn
  have hd2 := hd.out.tg
  rw [hd_nil.1, hd_nil.2] at hd2
  have ld := Lib.hid hd2.len
  have HD := Lib.hid hd2
  clear hd hd2
  go_enter Tryd.func24, Tryd.ntmps24
  go_upto_region 1 with fail
  generalize hW : World.alloc w _ = W
  have D1 := Lib.hid (show Dg W w.heap.size (List.replicate 32 0) by rw [← hW]; exact Dg.new w)
  have B1 := Lib.hid (show Below w.heap.size w W by rw [← hW]; exact bel_alloc1 w _)
  clear hW
  go_wp2_with (first
    | (go_at_call 32; with_reducible refine (rtext_nil p c _).mono ?_; rintro e w2 ⟨rfl, hb⟩; have B2 := Lib.hid (bel_trans B1.out hb); have D2 := Lib.hid (D1.out.bel hb); clear hb)
    | (go_at_call 34; refine (rtagged_is _ tNone none 0 0 [] ds _ (by decide) (Lib.hid (.inl ⟨rfl, .inl ⟨rfl, rfl, rfl⟩⟩)) (Lib.hid (by simp)) (by decide) (by omega) HD).mono ?_; rintro e w3 ⟨rfl, hb⟩; have B3 := Lib.hid (bel_trans B2.out hb); have D3 := Lib.hid (D2.out.bel hb); clear hb)
    | (refine list_storeD rfl (.tmp 2) (.tmp 12) rfl w.heap.size rfl ds rfl ld.out (List.replicate 32 0) D3.out ?_))
  intro w4 D4 k4
  have B4 := Lib.hid (B3.out.trans (k4.below (Nat.le_refl _)))
  have D4 := Lib.hid D4
  go_wp2_with fail
  refine bodyPost_ret (results_cell1 (a := ⟨w.heap.size, 0, none⟩) (v := .agg (bv ds).toArray) rfl _ rfl (load_dig D4.out)) rfl ⟨rfl, B4.out⟩
set_option maxRecDepth 100000 in
set_option maxHeartbeats 4000000 in
theorem rhead_link (p : Option Addr) (n c : Nat) (ls : List Lk) (w : World) (hs : Hid (LksV w p n c ls)) (hsm : Hid (Small ls)) (ds : List Int) (hd : Hid (IsHead ls ds)) (k : Nat) (hn : n = k + 1) :
    Calls Tryd.prog 24 #[.slice p n c] w fun e w' => e = .returned (.agg (bv ds).toArray) ∧ Below w.heap.size w w' := by
  subst hn
  have hd2 := hd.out.tg
  rw [(hd_last hs.out.len.symm).1, (hd_last hs.out.len.symm).2] at hd2
  have sx := Lib.hid (hs.out.sm hsm.out (i := k) (by have := hs.out.len; omega))
  have hk40 : k + 1 ≤ 40 := by have := hsm.out.n; have := hs.out.len; omega
  have ld := Lib.hid hd2.len
  have HD := Lib.hid hd2
  clear hd hd2
  go_enter Tryd.func24, Tryd.ntmps24
  go_upto_region 1 with fail
  generalize hW : World.alloc w _ = W
  have D1 := Lib.hid (show Dg W w.heap.size (List.replicate 32 0) by rw [← hW]; exact Dg.new w)
  have B1 := Lib.hid (show Below w.heap.size w W by rw [← hW]; exact bel_alloc1 w _)
  clear hW
  go_upto_region 2 with (go_at_call 32; with_reducible refine (rtext_link p (k + 1) c k ls W (Lib.hid (hs.out.below B1.out)) rfl (by omega) sx).mono ?_; rintro e w2 ⟨v2, rfl, ho, hb⟩; have O2 := Lib.hid ho; have B2 := Lib.hid (bel_trans B1.out hb); have D2 := Lib.hid (D1.out.bel hb); clear ho hb)
  obtain ⟨p1, c1, hv1, hz1⟩ := own8_tag O2.out
  subst hv1
  have Z1 := Lib.hid hz1
  clear hz1 O2
  go_wp2_with (first
    | (go_at_call 34; refine (rtagged_is _ tLink p1 _ c1 (lkT (ls.getD k lk0)) ds _ (by decide) Z1 (Lib.hid (lkT_rng sx.out)) (by decide) (by have := lkT_len sx.out; omega) HD).mono ?_; rintro e w3 ⟨rfl, hb⟩; have B3 := Lib.hid (bel_trans B2.out hb); have D3 := Lib.hid (D2.out.bel hb); clear hb)
    | (refine list_storeD rfl (.tmp 2) (.tmp 12) rfl w.heap.size rfl ds rfl ld.out (List.replicate 32 0) D3.out ?_))
  intro w4 D4 k4
  have B4 := Lib.hid (B3.out.trans (k4.below (Nat.le_refl _)))
  have D4 := Lib.hid D4
  go_wp2_with fail
  refine bodyPost_ret (results_cell1 (a := ⟨w.heap.size, 0, none⟩) (v := .agg (bv ds).toArray) rfl _ rfl (load_dig D4.out)) rfl ⟨rfl, B4.out⟩
theorem rhead_is (p : Option Addr) (n c : Nat) (ls : List Lk) (w : World) (hs : Hid (LksV w p n c ls)) (hsm : Hid (Small ls)) (ds : List Int) (hd : Hid (IsHead ls ds)) :
    Calls Tryd.prog 24 #[.slice p n c] w fun e w' => e = .returned (.agg (bv ds).toArray) ∧ Below w.heap.size w w' := by
  by_cases h : n = 0
  · exact rhead_nil p n c ls w hs hsm ds hd h
  · exact rhead_link p n c ls w hs hsm ds hd (n - 1) (by omega)
set_option maxRecDepth 100000 in
set_option maxHeartbeats 16000000 in
theorem rcheck_is (p : Option Addr) (n c : Nat) (ls : List Lk) (e : Int) (w : World) (hs : Hid (LksV w p n c ls)) (hsm : Hid (Small ls)) (he : Hid (IsChk ls e)) :
    Calls Tryd.prog 23 #[.slice p n c] w fun r w' => r = .returned (.int .i64 e) ∧ Below w.heap.size w w' := by
  have HN := Lib.hid hs.out.len
  have hnc := hs.out.nc
  have hcm := hs.out.cm
  have hn40 : n ≤ 40 := by have := hsm.out.n; have := HN.out; omega
  have hg : decide ((1024 : Int) < (n : Int)) = false := decide_eq_false (by omega)
  have B0 := Lib.hid (Below.refl w.heap.size w)
  go_enter Tryd.func23, Tryd.ntmps23
  go_wp2_with fail
  go_loopw [3] (fun i wr => ∃ k : Nat, k ≤ n ∧ i = .int .i64 (k : Int) ∧ Hid (AllB (linB ls) k) ∧ Hid (Below w.heap.size w wr)) (fun i _ => n - (intOf i).toNat)
  case atStart => exact ⟨0, by omega, by simp, Lib.hid (fun i hi => absurd hi (by omega)), B0⟩
  case round =>
    clear B0
    obtain ⟨k, hk, rfl, HA, HB⟩ := hrel
    by_cases hlt : k < n
    · obtain ⟨b, off, hp, hb, hr, hl⟩ := hs.out.at hlt
      obtain ⟨b9, off9, hp9, hb9, hr9, hl9⟩ := hs.out.at (i := 0) (by omega)
      rw [hp] at hp9
      obtain ⟨rfl, rfl⟩ : b = b9 ∧ off = off9 := by simpa using hp9
      clear hp9 hb9
      rw [show off + 0 * 35 = off by omega] at hr9
      obtain ⟨x, hx⟩ : ∃ x, ls.getD k lk0 = x := ⟨_, rfl⟩
      obtain ⟨y, hy⟩ : ∃ y, ls.getD 0 lk0 = y := ⟨_, rfl⟩
      have HXM := Lib.hid (show x.bs.length ≤ 400 by rw [← hx]; exact hsm.out.d _ (getD_memL (by have := HN.out; omega)))
      have HFB := Lib.hid (show fldB ls k = (decide (0 ≤ x.node) && decide (x.node < 24) && (x.node == y.node) && (x.no == (k : Int)) && decide (x.bs.length ≤ 65536)) by unfold fldB; rw [hx, hy])
      have HPV := Lib.hid (show prvB ls k = (x.prev == headOf (ls.take k)) by unfold prvB; rw [hx])
      rw [hx] at hr hl
      rw [hy] at hr9 hl9
      subst hp
      have N9 := Lib.hid (lk_cells hr9 hl9.len).1
      have hxl := Lib.hid hl.len
      have R0 := Lib.hid (bel_range HB.out hr hb)
      have hxm : x.m ≤ 400 := by have := srcW_len hl.src; have := HXM.out; omega
      have HXC := Lib.hid hl.mc
      have hnpos : 0 < n := by omega
      clear hr hl hx hy hr9 hl9
      go_upto_region 7 with (first
        | (refine list_loadK (by rfl) (.tmp 16) rfl b (off + k * 35) rfl x hxl.out R0.out ?_)
        | (refine list_storeK rfl (.tmp 4) (.tmp 17) rfl wr.heap.size rfl x rfl hxl.out lk0 (KBlk.new wr) ?_))
      intro w2 K2 k2
      have B2 := Lib.hid (HB.out.trans ((bel_alloc1 wr _).trans (k2.below (Nat.le_refl _)) |>.mono HB.out.size))
      have K2 := Lib.hid K2
      clear k2
      go_upto_region 7 with fail
      refine wp_region_any (by kernel_rfl) ?_
      change wpAny _ _ _ _ _ _ _ (World.drew _)
      generalize hWD : World.drew _ = V
      generalize wr.heap.size = xb at K2 ⊢
      have BX := Lib.hid (show Below w.heap.size w V by rw [← hWD]; exact B2.out.drew)
      have KX := Lib.hid (show KBlk V xb x by rw [← hWD]; exact K2.out)
      have hbV : b < V.heap.size := by rw [← hWD]; exact Nat.lt_of_lt_of_le hb B2.out.size
      have N0 := Lib.hid (show V.cell? ⟨b, off, none⟩ = some (.int .i64 y.node) by rw [← hWD]; exact (B2.out.cell (p := ⟨b, off, none⟩) hb).trans N9.out)
      clear hWD B2 K2 N9 R0
      have hCD : ∀ u, Ext V u → Ext V u := fun u hu => hu
      by_cases h0 : x.node < 0
      · have hd1 : decide (x.node < 0) = true := decide_eq_true h0
        have HF := Lib.hid (show linB ls k = false by unfold linB; rw [HFB.out, decide_eq_false (show ¬ 0 ≤ x.node by omega)]; simp)
        refine region_U (D := Ext V) (Ext V) [37] (Ext.refl V) ?_
        refine anyU_takeP (i := 0) (j := 37) (v := .pointer (some ⟨xb, 0, none⟩)) 18 [29, 23, 17, 8, 3, 2, 1] rfl rfl (by kernel_rfl) (by kernel_rfl) (by kernel_rfl) (fun _ _ _ h => h) (by kernel_rfl) (Ext.stable _) hCD (yieldsU_val rfl (fun u hu => by go_simp)) ?_
        refine anyU_takeP (i := 1) (j := 37) (v := .int .i64 x.node) 19 [29, 23, 17, 8, 3, 2] rfl rfl (by kernel_rfl) (by kernel_rfl) (by kernel_rfl) (fun _ _ _ h => h) (by kernel_rfl) (Ext.stable _) hCD (yieldsU_val rfl (fun u hu => by obtain ⟨q0, q1, q2, q3⟩ := (KX.out.bel hu).cells; go_simp)) ?_
        refine anyU_takeP (i := 2) (j := 37) (v := .bool true) 20 [29, 23, 17, 8, 3] rfl rfl (by kernel_rfl) (by kernel_rfl) (by kernel_rfl) (fun _ _ _ h => h) (by kernel_rfl) (Ext.stable _) hCD (yieldsU_val rfl (fun u hu => by go_simp)) ?_
        refine anyU_takeP (i := 3) (j := 37) (v := .bool true) 21 [29, 23, 17, 8] rfl rfl (by kernel_rfl) (by kernel_rfl) (by kernel_rfl) (fun _ _ _ h => h) (by kernel_rfl) (Ext.stable _) hCD (yieldsU_val rfl (fun u hu => by go_simp)) ?_
        simp only [Act.put, List.setIfInBounds_toArray, List.set_cons_succ, List.set_cons_zero]
        refine anyU_takeP (i := 4) (j := 37) (v := undef) 22 [29, 23, 17, 8, 7, 6, 5] rfl rfl (by kernel_rfl) (by kernel_rfl) (by kernel_rfl) (fun _ _ _ h => h) (by kernel_rfl) (Ext.stable _) hCD (.inr ⟨by rfl, rfl⟩) ?_
        refine anyU_takeP (i := 5) (j := 37) (v := undef) 23 [29, 23, 17, 8, 7, 6] rfl rfl (by kernel_rfl) (by kernel_rfl) (by kernel_rfl) (fun _ _ _ h => h) (by kernel_rfl) (Ext.stable _) hCD (.inr ⟨by rfl, rfl⟩) ?_
        refine anyU_takeP (i := 6) (j := 37) (v := undef) 24 [29, 23, 17, 8, 7] rfl rfl (by kernel_rfl) (by kernel_rfl) (by kernel_rfl) (fun _ _ _ h => h) (by kernel_rfl) (Ext.stable _) hCD (.inr ⟨by rfl, rfl⟩) ?_
        refine anyU_takeP (i := 7) (j := 37) (v := .bool true) 25 [29, 23, 17, 8] rfl rfl (by kernel_rfl) (by kernel_rfl) (by kernel_rfl) (fun _ _ _ h => h) (by kernel_rfl) (Ext.stable _) hCD (yieldsU_val rfl (fun u hu => by go_simp)) ?_
        refine anyU_takeP (i := 8) (j := 37) (v := .bool true) 26 [29, 23, 17] rfl rfl (by kernel_rfl) (by kernel_rfl) (by kernel_rfl) (fun _ _ _ h => h) (by kernel_rfl) (Ext.stable _) hCD (yieldsU_val rfl (fun u hu => by go_simp)) ?_
        simp only [Act.put, List.setIfInBounds_toArray, List.set_cons_succ, List.set_cons_zero]
        refine anyU_takeP (i := 9) (j := 37) (v := undef) 27 [29, 23, 17, 16, 15, 10] rfl rfl (by kernel_rfl) (by kernel_rfl) (by kernel_rfl) (fun _ _ _ h => h) (by kernel_rfl) (Ext.stable _) hCD (.inr ⟨by rfl, rfl⟩) ?_
        refine anyU_takeP (i := 10) (j := 37) (v := undef) 28 [29, 23, 17, 16, 15] rfl rfl (by kernel_rfl) (by kernel_rfl) (by kernel_rfl) (fun _ _ _ h => h) (by kernel_rfl) (Ext.stable _) hCD (.inr ⟨by rfl, rfl⟩) ?_
        refine anyU_takeP (i := 11) (j := 37) (v := undef) 29 [29, 23, 17, 16, 15, 14, 13, 12] rfl rfl (by kernel_rfl) (by kernel_rfl) (by kernel_rfl) (fun _ _ _ h => h) (by kernel_rfl) (Ext.stable _) hCD (.inr ⟨by rfl, rfl⟩) ?_
        refine anyU_takeP (i := 12) (j := 37) (v := undef) 30 [29, 23, 17, 16, 15, 14, 13] rfl rfl (by kernel_rfl) (by kernel_rfl) (by kernel_rfl) (fun _ _ _ h => h) (by kernel_rfl) (Ext.stable _) hCD (.inr ⟨by rfl, rfl⟩) ?_
        simp only [Act.put, List.setIfInBounds_toArray, List.set_cons_succ, List.set_cons_zero]
        refine anyU_takeP (i := 13) (j := 37) (v := undef) 31 [29, 23, 17, 16, 15, 14] rfl rfl (by kernel_rfl) (by kernel_rfl) (by kernel_rfl) (fun _ _ _ h => h) (by kernel_rfl) (Ext.stable _) hCD (.inr ⟨by rfl, rfl⟩) ?_
        refine anyU_takeP (i := 14) (j := 37) (v := undef) 32 [29, 23, 17, 16, 15] rfl rfl (by kernel_rfl) (by kernel_rfl) (by kernel_rfl) (fun _ _ _ h => h) (by kernel_rfl) (Ext.stable _) hCD (.inr ⟨by rfl, rfl⟩) ?_
        refine anyU_takeP (i := 15) (j := 37) (v := undef) 33 [29, 23, 17, 16] rfl rfl (by kernel_rfl) (by kernel_rfl) (by kernel_rfl) (fun _ _ _ h => h) (by kernel_rfl) (Ext.stable _) hCD (.inr ⟨by rfl, rfl⟩) ?_
        refine anyU_takeP (i := 16) (j := 37) (v := .bool true) 34 [29, 23, 17] rfl rfl (by kernel_rfl) (by kernel_rfl) (by kernel_rfl) (fun _ _ _ h => h) (by kernel_rfl) (Ext.stable _) hCD (yieldsU_val rfl (fun u hu => by go_simp)) ?_
        refine anyU_takeP (i := 17) (j := 37) (v := .bool true) 35 [29, 23] rfl rfl (by kernel_rfl) (by kernel_rfl) (by kernel_rfl) (fun _ _ _ h => h) (by kernel_rfl) (Ext.stable _) hCD (yieldsU_val rfl (fun u hu => by go_simp)) ?_
        simp only [Act.put, List.setIfInBounds_toArray, List.set_cons_succ, List.set_cons_zero]
        refine anyU_takeP (i := 18) (j := 37) (v := undef) 36 [29, 23, 22, 21, 19] rfl rfl (by kernel_rfl) (by kernel_rfl) (by kernel_rfl) (fun _ _ _ h => h) (by kernel_rfl) (Ext.stable _) hCD (.inr ⟨by rfl, rfl⟩) ?_
        refine anyU_takeP (i := 19) (j := 37) (v := undef) 37 [29, 23, 22, 21] rfl rfl (by kernel_rfl) (by kernel_rfl) (by kernel_rfl) (fun _ _ _ h => h) (by kernel_rfl) (Ext.stable _) hCD (.inr ⟨by rfl, rfl⟩) ?_
        refine anyU_takeP (i := 20) (j := 37) (v := undef) 38 [29, 23, 22, 21] rfl rfl (by kernel_rfl) (by kernel_rfl) (by kernel_rfl) (fun _ _ _ h => h) (by kernel_rfl) (Ext.stable _) hCD (.inr ⟨by rfl, rfl⟩) ?_
        refine anyU_takeP (i := 21) (j := 37) (v := undef) 39 [29, 23, 22] rfl rfl (by kernel_rfl) (by kernel_rfl) (by kernel_rfl) (fun _ _ _ h => h) (by kernel_rfl) (Ext.stable _) hCD (.inr ⟨by rfl, rfl⟩) ?_
        refine anyU_takeP (i := 22) (j := 37) (v := .bool true) 40 [29, 23] rfl rfl (by kernel_rfl) (by kernel_rfl) (by kernel_rfl) (fun _ _ _ h => h) (by kernel_rfl) (Ext.stable _) hCD (yieldsU_val rfl (fun u hu => by go_simp)) ?_
        refine anyU_takeP (i := 23) (j := 37) (v := .bool true) 41 [29] rfl rfl (by kernel_rfl) (by kernel_rfl) (by kernel_rfl) (fun _ _ _ h => h) (by kernel_rfl) (Ext.stable _) hCD (yieldsU_val rfl (fun u hu => by go_simp)) ?_
        simp only [Act.put, List.setIfInBounds_toArray, List.set_cons_succ, List.set_cons_zero]
        refine anyU_takeP (i := 24) (j := 37) (v := undef) 42 [29, 28, 27, 26, 25] rfl rfl (by kernel_rfl) (by kernel_rfl) (by kernel_rfl) (fun _ _ _ h => h) (by kernel_rfl) (Ext.stable _) hCD (.inr ⟨by rfl, rfl⟩) ?_
        refine anyU_takeP (i := 25) (j := 37) (v := undef) 43 [29, 28, 27, 26] rfl rfl (by kernel_rfl) (by kernel_rfl) (by kernel_rfl) (fun _ _ _ h => h) (by kernel_rfl) (Ext.stable _) hCD (.inr ⟨by rfl, rfl⟩) ?_
        refine anyU_takeP (i := 26) (j := 37) (v := undef) 44 [29, 28, 27] rfl rfl (by kernel_rfl) (by kernel_rfl) (by kernel_rfl) (fun _ _ _ h => h) (by kernel_rfl) (Ext.stable _) hCD (.inr ⟨by rfl, rfl⟩) ?_
        refine anyU_takeP (i := 27) (j := 37) (v := undef) 45 [29, 28] rfl rfl (by kernel_rfl) (by kernel_rfl) (by kernel_rfl) (fun _ _ _ h => h) (by kernel_rfl) (Ext.stable _) hCD (.inr ⟨by rfl, rfl⟩) ?_
        refine anyU_takeP (i := 28) (j := 37) (v := .bool true) 46 [29] rfl rfl (by kernel_rfl) (by kernel_rfl) (by kernel_rfl) (fun _ _ _ h => h) (by kernel_rfl) (Ext.stable _) hCD (yieldsU_val rfl (fun u hu => by go_simp)) ?_
        refine anyU_takeP (i := 29) (j := 37) (v := .bool true) 47 [] rfl rfl (by kernel_rfl) (by kernel_rfl) (by kernel_rfl) (fun _ _ _ h => h) (by kernel_rfl) (Ext.stable _) hCD (yieldsU_val rfl (fun u hu => by go_simp)) ?_
        simp only [Act.put, List.setIfInBounds_toArray, List.set_cons_succ, List.set_cons_zero]
        refine anyU_takeP (i := 30) (j := 37) (v := undef) 48 [36, 31] rfl rfl (by kernel_rfl) (by kernel_rfl) (by kernel_rfl) (fun _ _ _ h => h) (by kernel_rfl) (Ext.stable _) hCD (.inr ⟨by rfl, rfl⟩) ?_
        refine anyU_takeP (i := 31) (j := 37) (v := undef) 49 [36] rfl rfl (by kernel_rfl) (by kernel_rfl) (by kernel_rfl) (fun _ _ _ h => h) (by kernel_rfl) (Ext.stable _) hCD (.inr ⟨by rfl, rfl⟩) ?_
        refine anyU_takeP (i := 32) (j := 37) (v := undef) 50 [36, 35, 34] rfl rfl (by kernel_rfl) (by kernel_rfl) (by kernel_rfl) (fun _ _ _ h => h) (by kernel_rfl) (Ext.stable _) hCD (.inr ⟨by rfl, rfl⟩) ?_
        refine anyU_takeP (i := 33) (j := 37) (v := undef) 51 [36, 35, 34] rfl rfl (by kernel_rfl) (by kernel_rfl) (by kernel_rfl) (fun _ _ _ h => h) (by kernel_rfl) (Ext.stable _) hCD (.inr ⟨by rfl, rfl⟩) ?_
        simp only [Act.put, List.setIfInBounds_toArray, List.set_cons_succ, List.set_cons_zero]
        refine anyU_takeP (i := 34) (j := 37) (v := undef) 52 [36, 35] rfl rfl (by kernel_rfl) (by kernel_rfl) (by kernel_rfl) (fun _ _ _ h => h) (by kernel_rfl) (Ext.stable _) hCD (.inr ⟨by rfl, rfl⟩) ?_
        refine anyU_takeP (i := 35) (j := 37) (v := undef) 53 [36] rfl rfl (by kernel_rfl) (by kernel_rfl) (by kernel_rfl) (fun _ _ _ h => h) (by kernel_rfl) (Ext.stable _) hCD (.inr ⟨by rfl, rfl⟩) ?_
        simp only [Act.put, List.setIfInBounds_toArray, List.set_cons_succ, List.set_cons_zero]
        refine anyU_takeP (i := 36) (j := 37) (v := undef) 54 [] rfl rfl (by kernel_rfl) (by kernel_rfl) (by kernel_rfl) (fun _ _ _ h => h) (by kernel_rfl) (Ext.stable _) hCD (.inr ⟨by rfl, rfl⟩) ?_
        refine anyU_tail 37 [] rfl rfl (by decide) (by kernel_rfl) ?_
        intro u hu
        simp only [Act.put, List.filterMap_cons, List.filterMap_nil, List.getElem?_cons_succ, List.getElem?_cons_zero]
        have BU := Lib.hid (bel_trans BX.out hu)
        clear hu
        have HE := Lib.hid (he.out.det (.inr ⟨⟨k, by have := HN.out; omega, HF.out⟩, rfl⟩))
        go_wp2_with fail
        go_ret
        rw [HE.out]
        exact ⟨rfl, BU.out⟩
      have hd1 : decide (x.node < 0) = false := decide_eq_false h0
      by_cases h1 : 24 ≤ x.node
      · have hd2 : decide (24 ≤ x.node) = true := decide_eq_true h1
        have HF := Lib.hid (show linB ls k = false by unfold linB; rw [HFB.out, decide_eq_false (show ¬ x.node < 24 by omega)]; simp)
        refine region_U (D := Ext V) (Ext V) [37] (Ext.refl V) ?_
        refine anyU_takeP (i := 0) (j := 37) (v := .pointer (some ⟨xb, 0, none⟩)) 18 [29, 23, 17, 8, 3, 2, 1] rfl rfl (by kernel_rfl) (by kernel_rfl) (by kernel_rfl) (fun _ _ _ h => h) (by kernel_rfl) (Ext.stable _) hCD (yieldsU_val rfl (fun u hu => by go_simp)) ?_
        refine anyU_takeP (i := 1) (j := 37) (v := .int .i64 x.node) 19 [29, 23, 17, 8, 3, 2] rfl rfl (by kernel_rfl) (by kernel_rfl) (by kernel_rfl) (fun _ _ _ h => h) (by kernel_rfl) (Ext.stable _) hCD (yieldsU_val rfl (fun u hu => by obtain ⟨q0, q1, q2, q3⟩ := (KX.out.bel hu).cells; go_simp)) ?_
        refine anyU_takeP (i := 2) (j := 37) (v := .bool false) 20 [29, 23, 17, 8, 3] rfl rfl (by kernel_rfl) (by kernel_rfl) (by kernel_rfl) (fun _ _ _ h => h) (by kernel_rfl) (Ext.stable _) hCD (yieldsU_val rfl (fun u hu => by go_simp)) ?_
        refine anyU_takeP (i := 3) (j := 37) (v := .bool false) 21 [29, 23, 17, 8] rfl rfl (by kernel_rfl) (by kernel_rfl) (by kernel_rfl) (fun _ _ _ h => h) (by kernel_rfl) (Ext.stable _) hCD (yieldsU_val rfl (fun u hu => by go_simp)) ?_
        simp only [Act.put, List.setIfInBounds_toArray, List.set_cons_succ, List.set_cons_zero]
        refine anyU_takeP (i := 4) (j := 37) (v := .pointer (some ⟨xb, 0, none⟩)) 22 [29, 23, 17, 8, 7, 6, 5] rfl rfl (by kernel_rfl) (by kernel_rfl) (by kernel_rfl) (fun _ _ _ h => h) (by kernel_rfl) (Ext.stable _) hCD (yieldsU_val rfl (fun u hu => by go_simp)) ?_
        refine anyU_takeP (i := 5) (j := 37) (v := .int .i64 x.node) 23 [29, 23, 17, 8, 7, 6] rfl rfl (by kernel_rfl) (by kernel_rfl) (by kernel_rfl) (fun _ _ _ h => h) (by kernel_rfl) (Ext.stable _) hCD (yieldsU_val rfl (fun u hu => by obtain ⟨q0, q1, q2, q3⟩ := (KX.out.bel hu).cells; go_simp)) ?_
        refine anyU_takeP (i := 6) (j := 37) (v := .bool true) 24 [29, 23, 17, 8, 7] rfl rfl (by kernel_rfl) (by kernel_rfl) (by kernel_rfl) (fun _ _ _ h => h) (by kernel_rfl) (Ext.stable _) hCD (yieldsU_val rfl (fun u hu => by go_simp)) ?_
        refine anyU_takeP (i := 7) (j := 37) (v := .bool true) 25 [29, 23, 17, 8] rfl rfl (by kernel_rfl) (by kernel_rfl) (by kernel_rfl) (fun _ _ _ h => h) (by kernel_rfl) (Ext.stable _) hCD (yieldsU_val rfl (fun u hu => by go_simp)) ?_
        refine anyU_takeP (i := 8) (j := 37) (v := .bool true) 26 [29, 23, 17] rfl rfl (by kernel_rfl) (by kernel_rfl) (by kernel_rfl) (fun _ _ _ h => h) (by kernel_rfl) (Ext.stable _) hCD (yieldsU_val rfl (fun u hu => by go_simp)) ?_
        simp only [Act.put, List.setIfInBounds_toArray, List.set_cons_succ, List.set_cons_zero]
        refine anyU_takeP (i := 9) (j := 37) (v := undef) 27 [29, 23, 17, 16, 15, 10] rfl rfl (by kernel_rfl) (by kernel_rfl) (by kernel_rfl) (fun _ _ _ h => h) (by kernel_rfl) (Ext.stable _) hCD (.inr ⟨by rfl, rfl⟩) ?_
        refine anyU_takeP (i := 10) (j := 37) (v := undef) 28 [29, 23, 17, 16, 15] rfl rfl (by kernel_rfl) (by kernel_rfl) (by kernel_rfl) (fun _ _ _ h => h) (by kernel_rfl) (Ext.stable _) hCD (.inr ⟨by rfl, rfl⟩) ?_
        refine anyU_takeP (i := 11) (j := 37) (v := undef) 29 [29, 23, 17, 16, 15, 14, 13, 12] rfl rfl (by kernel_rfl) (by kernel_rfl) (by kernel_rfl) (fun _ _ _ h => h) (by kernel_rfl) (Ext.stable _) hCD (.inr ⟨by rfl, rfl⟩) ?_
        refine anyU_takeP (i := 12) (j := 37) (v := undef) 30 [29, 23, 17, 16, 15, 14, 13] rfl rfl (by kernel_rfl) (by kernel_rfl) (by kernel_rfl) (fun _ _ _ h => h) (by kernel_rfl) (Ext.stable _) hCD (.inr ⟨by rfl, rfl⟩) ?_
        simp only [Act.put, List.setIfInBounds_toArray, List.set_cons_succ, List.set_cons_zero]
        refine anyU_takeP (i := 13) (j := 37) (v := undef) 31 [29, 23, 17, 16, 15, 14] rfl rfl (by kernel_rfl) (by kernel_rfl) (by kernel_rfl) (fun _ _ _ h => h) (by kernel_rfl) (Ext.stable _) hCD (.inr ⟨by rfl, rfl⟩) ?_
        refine anyU_takeP (i := 14) (j := 37) (v := undef) 32 [29, 23, 17, 16, 15] rfl rfl (by kernel_rfl) (by kernel_rfl) (by kernel_rfl) (fun _ _ _ h => h) (by kernel_rfl) (Ext.stable _) hCD (.inr ⟨by rfl, rfl⟩) ?_
        refine anyU_takeP (i := 15) (j := 37) (v := undef) 33 [29, 23, 17, 16] rfl rfl (by kernel_rfl) (by kernel_rfl) (by kernel_rfl) (fun _ _ _ h => h) (by kernel_rfl) (Ext.stable _) hCD (.inr ⟨by rfl, rfl⟩) ?_
        refine anyU_takeP (i := 16) (j := 37) (v := .bool true) 34 [29, 23, 17] rfl rfl (by kernel_rfl) (by kernel_rfl) (by kernel_rfl) (fun _ _ _ h => h) (by kernel_rfl) (Ext.stable _) hCD (yieldsU_val rfl (fun u hu => by go_simp)) ?_
        refine anyU_takeP (i := 17) (j := 37) (v := .bool true) 35 [29, 23] rfl rfl (by kernel_rfl) (by kernel_rfl) (by kernel_rfl) (fun _ _ _ h => h) (by kernel_rfl) (Ext.stable _) hCD (yieldsU_val rfl (fun u hu => by go_simp)) ?_
        simp only [Act.put, List.setIfInBounds_toArray, List.set_cons_succ, List.set_cons_zero]
        refine anyU_takeP (i := 18) (j := 37) (v := undef) 36 [29, 23, 22, 21, 19] rfl rfl (by kernel_rfl) (by kernel_rfl) (by kernel_rfl) (fun _ _ _ h => h) (by kernel_rfl) (Ext.stable _) hCD (.inr ⟨by rfl, rfl⟩) ?_
        refine anyU_takeP (i := 19) (j := 37) (v := undef) 37 [29, 23, 22, 21] rfl rfl (by kernel_rfl) (by kernel_rfl) (by kernel_rfl) (fun _ _ _ h => h) (by kernel_rfl) (Ext.stable _) hCD (.inr ⟨by rfl, rfl⟩) ?_
        refine anyU_takeP (i := 20) (j := 37) (v := undef) 38 [29, 23, 22, 21] rfl rfl (by kernel_rfl) (by kernel_rfl) (by kernel_rfl) (fun _ _ _ h => h) (by kernel_rfl) (Ext.stable _) hCD (.inr ⟨by rfl, rfl⟩) ?_
        refine anyU_takeP (i := 21) (j := 37) (v := undef) 39 [29, 23, 22] rfl rfl (by kernel_rfl) (by kernel_rfl) (by kernel_rfl) (fun _ _ _ h => h) (by kernel_rfl) (Ext.stable _) hCD (.inr ⟨by rfl, rfl⟩) ?_
        refine anyU_takeP (i := 22) (j := 37) (v := .bool true) 40 [29, 23] rfl rfl (by kernel_rfl) (by kernel_rfl) (by kernel_rfl) (fun _ _ _ h => h) (by kernel_rfl) (Ext.stable _) hCD (yieldsU_val rfl (fun u hu => by go_simp)) ?_
        refine anyU_takeP (i := 23) (j := 37) (v := .bool true) 41 [29] rfl rfl (by kernel_rfl) (by kernel_rfl) (by kernel_rfl) (fun _ _ _ h => h) (by kernel_rfl) (Ext.stable _) hCD (yieldsU_val rfl (fun u hu => by go_simp)) ?_
        simp only [Act.put, List.setIfInBounds_toArray, List.set_cons_succ, List.set_cons_zero]
        refine anyU_takeP (i := 24) (j := 37) (v := undef) 42 [29, 28, 27, 26, 25] rfl rfl (by kernel_rfl) (by kernel_rfl) (by kernel_rfl) (fun _ _ _ h => h) (by kernel_rfl) (Ext.stable _) hCD (.inr ⟨by rfl, rfl⟩) ?_
        refine anyU_takeP (i := 25) (j := 37) (v := undef) 43 [29, 28, 27, 26] rfl rfl (by kernel_rfl) (by kernel_rfl) (by kernel_rfl) (fun _ _ _ h => h) (by kernel_rfl) (Ext.stable _) hCD (.inr ⟨by rfl, rfl⟩) ?_
        refine anyU_takeP (i := 26) (j := 37) (v := undef) 44 [29, 28, 27] rfl rfl (by kernel_rfl) (by kernel_rfl) (by kernel_rfl) (fun _ _ _ h => h) (by kernel_rfl) (Ext.stable _) hCD (.inr ⟨by rfl, rfl⟩) ?_
        refine anyU_takeP (i := 27) (j := 37) (v := undef) 45 [29, 28] rfl rfl (by kernel_rfl) (by kernel_rfl) (by kernel_rfl) (fun _ _ _ h => h) (by kernel_rfl) (Ext.stable _) hCD (.inr ⟨by rfl, rfl⟩) ?_
        refine anyU_takeP (i := 28) (j := 37) (v := .bool true) 46 [29] rfl rfl (by kernel_rfl) (by kernel_rfl) (by kernel_rfl) (fun _ _ _ h => h) (by kernel_rfl) (Ext.stable _) hCD (yieldsU_val rfl (fun u hu => by go_simp)) ?_
        refine anyU_takeP (i := 29) (j := 37) (v := .bool true) 47 [] rfl rfl (by kernel_rfl) (by kernel_rfl) (by kernel_rfl) (fun _ _ _ h => h) (by kernel_rfl) (Ext.stable _) hCD (yieldsU_val rfl (fun u hu => by go_simp)) ?_
        simp only [Act.put, List.setIfInBounds_toArray, List.set_cons_succ, List.set_cons_zero]
        refine anyU_takeP (i := 30) (j := 37) (v := undef) 48 [36, 31] rfl rfl (by kernel_rfl) (by kernel_rfl) (by kernel_rfl) (fun _ _ _ h => h) (by kernel_rfl) (Ext.stable _) hCD (.inr ⟨by rfl, rfl⟩) ?_
        refine anyU_takeP (i := 31) (j := 37) (v := undef) 49 [36] rfl rfl (by kernel_rfl) (by kernel_rfl) (by kernel_rfl) (fun _ _ _ h => h) (by kernel_rfl) (Ext.stable _) hCD (.inr ⟨by rfl, rfl⟩) ?_
        refine anyU_takeP (i := 32) (j := 37) (v := undef) 50 [36, 35, 34] rfl rfl (by kernel_rfl) (by kernel_rfl) (by kernel_rfl) (fun _ _ _ h => h) (by kernel_rfl) (Ext.stable _) hCD (.inr ⟨by rfl, rfl⟩) ?_
        refine anyU_takeP (i := 33) (j := 37) (v := undef) 51 [36, 35, 34] rfl rfl (by kernel_rfl) (by kernel_rfl) (by kernel_rfl) (fun _ _ _ h => h) (by kernel_rfl) (Ext.stable _) hCD (.inr ⟨by rfl, rfl⟩) ?_
        simp only [Act.put, List.setIfInBounds_toArray, List.set_cons_succ, List.set_cons_zero]
        refine anyU_takeP (i := 34) (j := 37) (v := undef) 52 [36, 35] rfl rfl (by kernel_rfl) (by kernel_rfl) (by kernel_rfl) (fun _ _ _ h => h) (by kernel_rfl) (Ext.stable _) hCD (.inr ⟨by rfl, rfl⟩) ?_
        refine anyU_takeP (i := 35) (j := 37) (v := undef) 53 [36] rfl rfl (by kernel_rfl) (by kernel_rfl) (by kernel_rfl) (fun _ _ _ h => h) (by kernel_rfl) (Ext.stable _) hCD (.inr ⟨by rfl, rfl⟩) ?_
        simp only [Act.put, List.setIfInBounds_toArray, List.set_cons_succ, List.set_cons_zero]
        refine anyU_takeP (i := 36) (j := 37) (v := undef) 54 [] rfl rfl (by kernel_rfl) (by kernel_rfl) (by kernel_rfl) (fun _ _ _ h => h) (by kernel_rfl) (Ext.stable _) hCD (.inr ⟨by rfl, rfl⟩) ?_
        refine anyU_tail 37 [] rfl rfl (by decide) (by kernel_rfl) ?_
        intro u hu
        simp only [Act.put, List.filterMap_cons, List.filterMap_nil, List.getElem?_cons_succ, List.getElem?_cons_zero]
        have BU := Lib.hid (bel_trans BX.out hu)
        clear hu
        have HE := Lib.hid (he.out.det (.inr ⟨⟨k, by have := HN.out; omega, HF.out⟩, rfl⟩))
        go_wp2_with fail
        go_ret
        rw [HE.out]
        exact ⟨rfl, BU.out⟩
      have hd2 : decide (24 ≤ x.node) = false := decide_eq_false h1
      by_cases h2 : x.node = y.node
      case neg =>
        have hd3 : decide (x.node = y.node) = false := decide_eq_false h2
        have hd4 : (x.node == y.node) = false := by simpa using h2
        have HF := Lib.hid (show linB ls k = false by unfold linB; rw [HFB.out, hd4]; simp)
        refine region_U (D := Ext V) (Ext V) [37] (Ext.refl V) ?_
        refine anyU_takeP (i := 0) (j := 37) (v := .pointer (some ⟨xb, 0, none⟩)) 18 [29, 23, 17, 8, 3, 2, 1] rfl rfl (by kernel_rfl) (by kernel_rfl) (by kernel_rfl) (fun _ _ _ h => h) (by kernel_rfl) (Ext.stable _) hCD (yieldsU_val rfl (fun u hu => by go_simp)) ?_
        refine anyU_takeP (i := 1) (j := 37) (v := .int .i64 x.node) 19 [29, 23, 17, 8, 3, 2] rfl rfl (by kernel_rfl) (by kernel_rfl) (by kernel_rfl) (fun _ _ _ h => h) (by kernel_rfl) (Ext.stable _) hCD (yieldsU_val rfl (fun u hu => by obtain ⟨q0, q1, q2, q3⟩ := (KX.out.bel hu).cells; go_simp)) ?_
        refine anyU_takeP (i := 2) (j := 37) (v := .bool false) 20 [29, 23, 17, 8, 3] rfl rfl (by kernel_rfl) (by kernel_rfl) (by kernel_rfl) (fun _ _ _ h => h) (by kernel_rfl) (Ext.stable _) hCD (yieldsU_val rfl (fun u hu => by go_simp)) ?_
        refine anyU_takeP (i := 3) (j := 37) (v := .bool false) 21 [29, 23, 17, 8] rfl rfl (by kernel_rfl) (by kernel_rfl) (by kernel_rfl) (fun _ _ _ h => h) (by kernel_rfl) (Ext.stable _) hCD (yieldsU_val rfl (fun u hu => by go_simp)) ?_
        simp only [Act.put, List.setIfInBounds_toArray, List.set_cons_succ, List.set_cons_zero]
        refine anyU_takeP (i := 4) (j := 37) (v := .pointer (some ⟨xb, 0, none⟩)) 22 [29, 23, 17, 8, 7, 6, 5] rfl rfl (by kernel_rfl) (by kernel_rfl) (by kernel_rfl) (fun _ _ _ h => h) (by kernel_rfl) (Ext.stable _) hCD (yieldsU_val rfl (fun u hu => by go_simp)) ?_
        refine anyU_takeP (i := 5) (j := 37) (v := .int .i64 x.node) 23 [29, 23, 17, 8, 7, 6] rfl rfl (by kernel_rfl) (by kernel_rfl) (by kernel_rfl) (fun _ _ _ h => h) (by kernel_rfl) (Ext.stable _) hCD (yieldsU_val rfl (fun u hu => by obtain ⟨q0, q1, q2, q3⟩ := (KX.out.bel hu).cells; go_simp)) ?_
        refine anyU_takeP (i := 6) (j := 37) (v := .bool false) 24 [29, 23, 17, 8, 7] rfl rfl (by kernel_rfl) (by kernel_rfl) (by kernel_rfl) (fun _ _ _ h => h) (by kernel_rfl) (Ext.stable _) hCD (yieldsU_val rfl (fun u hu => by go_simp)) ?_
        refine anyU_takeP (i := 7) (j := 37) (v := .bool false) 25 [29, 23, 17, 8] rfl rfl (by kernel_rfl) (by kernel_rfl) (by kernel_rfl) (fun _ _ _ h => h) (by kernel_rfl) (Ext.stable _) hCD (yieldsU_val rfl (fun u hu => by go_simp)) ?_
        refine anyU_takeP (i := 8) (j := 37) (v := .bool false) 26 [29, 23, 17] rfl rfl (by kernel_rfl) (by kernel_rfl) (by kernel_rfl) (fun _ _ _ h => h) (by kernel_rfl) (Ext.stable _) hCD (yieldsU_val rfl (fun u hu => by go_simp)) ?_
        simp only [Act.put, List.setIfInBounds_toArray, List.set_cons_succ, List.set_cons_zero]
        refine anyU_takeP (i := 9) (j := 37) (v := .pointer (some ⟨xb, 0, none⟩)) 27 [29, 23, 17, 16, 15, 10] rfl rfl (by kernel_rfl) (by kernel_rfl) (by kernel_rfl) (fun _ _ _ h => h) (by kernel_rfl) (Ext.stable _) hCD (yieldsU_val rfl (fun u hu => by go_simp)) ?_
        refine anyU_takeP (i := 10) (j := 37) (v := .int .i64 x.node) 28 [29, 23, 17, 16, 15] rfl rfl (by kernel_rfl) (by kernel_rfl) (by kernel_rfl) (fun _ _ _ h => h) (by kernel_rfl) (Ext.stable _) hCD (yieldsU_val rfl (fun u hu => by obtain ⟨q0, q1, q2, q3⟩ := (KX.out.bel hu).cells; go_simp)) ?_
        refine anyU_takeP (i := 11) (j := 37) (v := .slice (some ⟨b, off, none⟩) n c) 29 [29, 23, 17, 16, 15, 14, 13, 12] rfl rfl (by kernel_rfl) (by kernel_rfl) (by kernel_rfl) (fun _ _ _ h => h) (by kernel_rfl) (Ext.stable _) hCD (yieldsU_val rfl (fun u hu => by go_simp)) ?_
        refine anyU_takeP (i := 12) (j := 37) (v := .pointer (some ⟨b, off, none⟩)) 30 [29, 23, 17, 16, 15, 14, 13] rfl rfl (by kernel_rfl) (by kernel_rfl) (by kernel_rfl) (fun _ _ _ h => h) (by kernel_rfl) (Ext.stable _) hCD (yieldsU_val rfl (fun u hu => by first | (go_simp; done) | (go_simp; intro h; omega))) ?_
        simp only [Act.put, List.setIfInBounds_toArray, List.set_cons_succ, List.set_cons_zero]
        refine anyU_takeP (i := 13) (j := 37) (v := .pointer (some ⟨b, off, none⟩)) 31 [29, 23, 17, 16, 15, 14] rfl rfl (by kernel_rfl) (by kernel_rfl) (by kernel_rfl) (fun _ _ _ h => h) (by kernel_rfl) (Ext.stable _) hCD (yieldsU_val rfl (fun u hu => by go_simp)) ?_
        refine anyU_takeP (i := 14) (j := 37) (v := .int .i64 y.node) 32 [29, 23, 17, 16, 15] rfl rfl (by kernel_rfl) (by kernel_rfl) (by kernel_rfl) (fun _ _ _ h => h) (by kernel_rfl) (Ext.stable _) hCD (yieldsU_val rfl (fun u hu => by have cc := (hu.cell (p := ⟨b, off, none⟩) hbV).trans N0.out; go_simp)) ?_
        refine anyU_takeP (i := 15) (j := 37) (v := .bool true) 33 [29, 23, 17, 16] rfl rfl (by kernel_rfl) (by kernel_rfl) (by kernel_rfl) (fun _ _ _ h => h) (by kernel_rfl) (Ext.stable _) hCD (yieldsU_val rfl (fun u hu => by go_simp)) ?_
        refine anyU_takeP (i := 16) (j := 37) (v := .bool true) 34 [29, 23, 17] rfl rfl (by kernel_rfl) (by kernel_rfl) (by kernel_rfl) (fun _ _ _ h => h) (by kernel_rfl) (Ext.stable _) hCD (yieldsU_val rfl (fun u hu => by go_simp)) ?_
        refine anyU_takeP (i := 17) (j := 37) (v := .bool true) 35 [29, 23] rfl rfl (by kernel_rfl) (by kernel_rfl) (by kernel_rfl) (fun _ _ _ h => h) (by kernel_rfl) (Ext.stable _) hCD (yieldsU_val rfl (fun u hu => by go_simp)) ?_
        simp only [Act.put, List.setIfInBounds_toArray, List.set_cons_succ, List.set_cons_zero]
        refine anyU_takeP (i := 18) (j := 37) (v := undef) 36 [29, 23, 22, 21, 19] rfl rfl (by kernel_rfl) (by kernel_rfl) (by kernel_rfl) (fun _ _ _ h => h) (by kernel_rfl) (Ext.stable _) hCD (.inr ⟨by rfl, rfl⟩) ?_
        refine anyU_takeP (i := 19) (j := 37) (v := undef) 37 [29, 23, 22, 21] rfl rfl (by kernel_rfl) (by kernel_rfl) (by kernel_rfl) (fun _ _ _ h => h) (by kernel_rfl) (Ext.stable _) hCD (.inr ⟨by rfl, rfl⟩) ?_
        refine anyU_takeP (i := 20) (j := 37) (v := undef) 38 [29, 23, 22, 21] rfl rfl (by kernel_rfl) (by kernel_rfl) (by kernel_rfl) (fun _ _ _ h => h) (by kernel_rfl) (Ext.stable _) hCD (.inr ⟨by rfl, rfl⟩) ?_
        refine anyU_takeP (i := 21) (j := 37) (v := undef) 39 [29, 23, 22] rfl rfl (by kernel_rfl) (by kernel_rfl) (by kernel_rfl) (fun _ _ _ h => h) (by kernel_rfl) (Ext.stable _) hCD (.inr ⟨by rfl, rfl⟩) ?_
        refine anyU_takeP (i := 22) (j := 37) (v := .bool true) 40 [29, 23] rfl rfl (by kernel_rfl) (by kernel_rfl) (by kernel_rfl) (fun _ _ _ h => h) (by kernel_rfl) (Ext.stable _) hCD (yieldsU_val rfl (fun u hu => by go_simp)) ?_
        refine anyU_takeP (i := 23) (j := 37) (v := .bool true) 41 [29] rfl rfl (by kernel_rfl) (by kernel_rfl) (by kernel_rfl) (fun _ _ _ h => h) (by kernel_rfl) (Ext.stable _) hCD (yieldsU_val rfl (fun u hu => by go_simp)) ?_
        simp only [Act.put, List.setIfInBounds_toArray, List.set_cons_succ, List.set_cons_zero]
        refine anyU_takeP (i := 24) (j := 37) (v := undef) 42 [29, 28, 27, 26, 25] rfl rfl (by kernel_rfl) (by kernel_rfl) (by kernel_rfl) (fun _ _ _ h => h) (by kernel_rfl) (Ext.stable _) hCD (.inr ⟨by rfl, rfl⟩) ?_
        refine anyU_takeP (i := 25) (j := 37) (v := undef) 43 [29, 28, 27, 26] rfl rfl (by kernel_rfl) (by kernel_rfl) (by kernel_rfl) (fun _ _ _ h => h) (by kernel_rfl) (Ext.stable _) hCD (.inr ⟨by rfl, rfl⟩) ?_
        refine anyU_takeP (i := 26) (j := 37) (v := undef) 44 [29, 28, 27] rfl rfl (by kernel_rfl) (by kernel_rfl) (by kernel_rfl) (fun _ _ _ h => h) (by kernel_rfl) (Ext.stable _) hCD (.inr ⟨by rfl, rfl⟩) ?_
        refine anyU_takeP (i := 27) (j := 37) (v := undef) 45 [29, 28] rfl rfl (by kernel_rfl) (by kernel_rfl) (by kernel_rfl) (fun _ _ _ h => h) (by kernel_rfl) (Ext.stable _) hCD (.inr ⟨by rfl, rfl⟩) ?_
        refine anyU_takeP (i := 28) (j := 37) (v := .bool true) 46 [29] rfl rfl (by kernel_rfl) (by kernel_rfl) (by kernel_rfl) (fun _ _ _ h => h) (by kernel_rfl) (Ext.stable _) hCD (yieldsU_val rfl (fun u hu => by go_simp)) ?_
        refine anyU_takeP (i := 29) (j := 37) (v := .bool true) 47 [] rfl rfl (by kernel_rfl) (by kernel_rfl) (by kernel_rfl) (fun _ _ _ h => h) (by kernel_rfl) (Ext.stable _) hCD (yieldsU_val rfl (fun u hu => by go_simp)) ?_
        simp only [Act.put, List.setIfInBounds_toArray, List.set_cons_succ, List.set_cons_zero]
        refine anyU_takeP (i := 30) (j := 37) (v := undef) 48 [36, 31] rfl rfl (by kernel_rfl) (by kernel_rfl) (by kernel_rfl) (fun _ _ _ h => h) (by kernel_rfl) (Ext.stable _) hCD (.inr ⟨by rfl, rfl⟩) ?_
        refine anyU_takeP (i := 31) (j := 37) (v := undef) 49 [36] rfl rfl (by kernel_rfl) (by kernel_rfl) (by kernel_rfl) (fun _ _ _ h => h) (by kernel_rfl) (Ext.stable _) hCD (.inr ⟨by rfl, rfl⟩) ?_
        refine anyU_takeP (i := 32) (j := 37) (v := undef) 50 [36, 35, 34] rfl rfl (by kernel_rfl) (by kernel_rfl) (by kernel_rfl) (fun _ _ _ h => h) (by kernel_rfl) (Ext.stable _) hCD (.inr ⟨by rfl, rfl⟩) ?_
        refine anyU_takeP (i := 33) (j := 37) (v := undef) 51 [36, 35, 34] rfl rfl (by kernel_rfl) (by kernel_rfl) (by kernel_rfl) (fun _ _ _ h => h) (by kernel_rfl) (Ext.stable _) hCD (.inr ⟨by rfl, rfl⟩) ?_
        simp only [Act.put, List.setIfInBounds_toArray, List.set_cons_succ, List.set_cons_zero]
        refine anyU_takeP (i := 34) (j := 37) (v := undef) 52 [36, 35] rfl rfl (by kernel_rfl) (by kernel_rfl) (by kernel_rfl) (fun _ _ _ h => h) (by kernel_rfl) (Ext.stable _) hCD (.inr ⟨by rfl, rfl⟩) ?_
        refine anyU_takeP (i := 35) (j := 37) (v := undef) 53 [36] rfl rfl (by kernel_rfl) (by kernel_rfl) (by kernel_rfl) (fun _ _ _ h => h) (by kernel_rfl) (Ext.stable _) hCD (.inr ⟨by rfl, rfl⟩) ?_
        simp only [Act.put, List.setIfInBounds_toArray, List.set_cons_succ, List.set_cons_zero]
        refine anyU_takeP (i := 36) (j := 37) (v := undef) 54 [] rfl rfl (by kernel_rfl) (by kernel_rfl) (by kernel_rfl) (fun _ _ _ h => h) (by kernel_rfl) (Ext.stable _) hCD (.inr ⟨by rfl, rfl⟩) ?_
        refine anyU_tail 37 [] rfl rfl (by decide) (by kernel_rfl) ?_
        intro u hu
        simp only [Act.put, List.filterMap_cons, List.filterMap_nil, List.getElem?_cons_succ, List.getElem?_cons_zero]
        have BU := Lib.hid (bel_trans BX.out hu)
        clear hu
        have HE := Lib.hid (he.out.det (.inr ⟨⟨k, by have := HN.out; omega, HF.out⟩, rfl⟩))
        go_wp2_with fail
        go_ret
        rw [HE.out]
        exact ⟨rfl, BU.out⟩
      rw [← h2] at N0 HFB
      have HV := Lib.hid (show 0 ≤ x.node ∧ x.node < 24 by omega)
      clear h2
      by_cases h3 : x.no = (k : Int)
      case neg =>
        have hd3 : decide (x.no = (k : Int)) = false := decide_eq_false h3
        have hd4 : (x.no == (k : Int)) = false := by simpa using h3
        have HF := Lib.hid (show linB ls k = false by unfold linB; rw [HFB.out, hd4]; simp)
        refine region_U (D := Ext V) (Ext V) [37] (Ext.refl V) ?_
        refine anyU_takeP (i := 0) (j := 37) (v := .pointer (some ⟨xb, 0, none⟩)) 18 [29, 23, 17, 8, 3, 2, 1] rfl rfl (by kernel_rfl) (by kernel_rfl) (by kernel_rfl) (fun _ _ _ h => h) (by kernel_rfl) (Ext.stable _) hCD (yieldsU_val rfl (fun u hu => by go_simp)) ?_
        refine anyU_takeP (i := 1) (j := 37) (v := .int .i64 x.node) 19 [29, 23, 17, 8, 3, 2] rfl rfl (by kernel_rfl) (by kernel_rfl) (by kernel_rfl) (fun _ _ _ h => h) (by kernel_rfl) (Ext.stable _) hCD (yieldsU_val rfl (fun u hu => by obtain ⟨q0, q1, q2, q3⟩ := (KX.out.bel hu).cells; go_simp)) ?_
        refine anyU_takeP (i := 2) (j := 37) (v := .bool false) 20 [29, 23, 17, 8, 3] rfl rfl (by kernel_rfl) (by kernel_rfl) (by kernel_rfl) (fun _ _ _ h => h) (by kernel_rfl) (Ext.stable _) hCD (yieldsU_val rfl (fun u hu => by go_simp)) ?_
        refine anyU_takeP (i := 3) (j := 37) (v := .bool false) 21 [29, 23, 17, 8] rfl rfl (by kernel_rfl) (by kernel_rfl) (by kernel_rfl) (fun _ _ _ h => h) (by kernel_rfl) (Ext.stable _) hCD (yieldsU_val rfl (fun u hu => by go_simp)) ?_
        simp only [Act.put, List.setIfInBounds_toArray, List.set_cons_succ, List.set_cons_zero]
        refine anyU_takeP (i := 4) (j := 37) (v := .pointer (some ⟨xb, 0, none⟩)) 22 [29, 23, 17, 8, 7, 6, 5] rfl rfl (by kernel_rfl) (by kernel_rfl) (by kernel_rfl) (fun _ _ _ h => h) (by kernel_rfl) (Ext.stable _) hCD (yieldsU_val rfl (fun u hu => by go_simp)) ?_
        refine anyU_takeP (i := 5) (j := 37) (v := .int .i64 x.node) 23 [29, 23, 17, 8, 7, 6] rfl rfl (by kernel_rfl) (by kernel_rfl) (by kernel_rfl) (fun _ _ _ h => h) (by kernel_rfl) (Ext.stable _) hCD (yieldsU_val rfl (fun u hu => by obtain ⟨q0, q1, q2, q3⟩ := (KX.out.bel hu).cells; go_simp)) ?_
        refine anyU_takeP (i := 6) (j := 37) (v := .bool false) 24 [29, 23, 17, 8, 7] rfl rfl (by kernel_rfl) (by kernel_rfl) (by kernel_rfl) (fun _ _ _ h => h) (by kernel_rfl) (Ext.stable _) hCD (yieldsU_val rfl (fun u hu => by go_simp)) ?_
        refine anyU_takeP (i := 7) (j := 37) (v := .bool false) 25 [29, 23, 17, 8] rfl rfl (by kernel_rfl) (by kernel_rfl) (by kernel_rfl) (fun _ _ _ h => h) (by kernel_rfl) (Ext.stable _) hCD (yieldsU_val rfl (fun u hu => by go_simp)) ?_
        refine anyU_takeP (i := 8) (j := 37) (v := .bool false) 26 [29, 23, 17] rfl rfl (by kernel_rfl) (by kernel_rfl) (by kernel_rfl) (fun _ _ _ h => h) (by kernel_rfl) (Ext.stable _) hCD (yieldsU_val rfl (fun u hu => by go_simp)) ?_
        simp only [Act.put, List.setIfInBounds_toArray, List.set_cons_succ, List.set_cons_zero]
        refine anyU_takeP (i := 9) (j := 37) (v := .pointer (some ⟨xb, 0, none⟩)) 27 [29, 23, 17, 16, 15, 10] rfl rfl (by kernel_rfl) (by kernel_rfl) (by kernel_rfl) (fun _ _ _ h => h) (by kernel_rfl) (Ext.stable _) hCD (yieldsU_val rfl (fun u hu => by go_simp)) ?_
        refine anyU_takeP (i := 10) (j := 37) (v := .int .i64 x.node) 28 [29, 23, 17, 16, 15] rfl rfl (by kernel_rfl) (by kernel_rfl) (by kernel_rfl) (fun _ _ _ h => h) (by kernel_rfl) (Ext.stable _) hCD (yieldsU_val rfl (fun u hu => by obtain ⟨q0, q1, q2, q3⟩ := (KX.out.bel hu).cells; go_simp)) ?_
        refine anyU_takeP (i := 11) (j := 37) (v := .slice (some ⟨b, off, none⟩) n c) 29 [29, 23, 17, 16, 15, 14, 13, 12] rfl rfl (by kernel_rfl) (by kernel_rfl) (by kernel_rfl) (fun _ _ _ h => h) (by kernel_rfl) (Ext.stable _) hCD (yieldsU_val rfl (fun u hu => by go_simp)) ?_
        refine anyU_takeP (i := 12) (j := 37) (v := .pointer (some ⟨b, off, none⟩)) 30 [29, 23, 17, 16, 15, 14, 13] rfl rfl (by kernel_rfl) (by kernel_rfl) (by kernel_rfl) (fun _ _ _ h => h) (by kernel_rfl) (Ext.stable _) hCD (yieldsU_val rfl (fun u hu => by first | (go_simp; done) | (go_simp; intro h; omega))) ?_
        simp only [Act.put, List.setIfInBounds_toArray, List.set_cons_succ, List.set_cons_zero]
        refine anyU_takeP (i := 13) (j := 37) (v := .pointer (some ⟨b, off, none⟩)) 31 [29, 23, 17, 16, 15, 14] rfl rfl (by kernel_rfl) (by kernel_rfl) (by kernel_rfl) (fun _ _ _ h => h) (by kernel_rfl) (Ext.stable _) hCD (yieldsU_val rfl (fun u hu => by go_simp)) ?_
        refine anyU_takeP (i := 14) (j := 37) (v := .int .i64 x.node) 32 [29, 23, 17, 16, 15] rfl rfl (by kernel_rfl) (by kernel_rfl) (by kernel_rfl) (fun _ _ _ h => h) (by kernel_rfl) (Ext.stable _) hCD (yieldsU_val rfl (fun u hu => by have cc := (hu.cell (p := ⟨b, off, none⟩) hbV).trans N0.out; go_simp)) ?_
        refine anyU_takeP (i := 15) (j := 37) (v := .bool false) 33 [29, 23, 17, 16] rfl rfl (by kernel_rfl) (by kernel_rfl) (by kernel_rfl) (fun _ _ _ h => h) (by kernel_rfl) (Ext.stable _) hCD (yieldsU_val rfl (fun u hu => by go_simp)) ?_
        refine anyU_takeP (i := 16) (j := 37) (v := .bool false) 34 [29, 23, 17] rfl rfl (by kernel_rfl) (by kernel_rfl) (by kernel_rfl) (fun _ _ _ h => h) (by kernel_rfl) (Ext.stable _) hCD (yieldsU_val rfl (fun u hu => by go_simp)) ?_
        refine anyU_takeP (i := 17) (j := 37) (v := .bool false) 35 [29, 23] rfl rfl (by kernel_rfl) (by kernel_rfl) (by kernel_rfl) (fun _ _ _ h => h) (by kernel_rfl) (Ext.stable _) hCD (yieldsU_val rfl (fun u hu => by go_simp)) ?_
        simp only [Act.put, List.setIfInBounds_toArray, List.set_cons_succ, List.set_cons_zero]
        refine anyU_takeP (i := 18) (j := 37) (v := .pointer (some ⟨xb, 1, none⟩)) 36 [29, 23, 22, 21, 19] rfl rfl (by kernel_rfl) (by kernel_rfl) (by kernel_rfl) (fun _ _ _ h => h) (by kernel_rfl) (Ext.stable _) hCD (yieldsU_val rfl (fun u hu => by go_simp)) ?_
        refine anyU_takeP (i := 19) (j := 37) (v := .int .i64 x.no) 37 [29, 23, 22, 21] rfl rfl (by kernel_rfl) (by kernel_rfl) (by kernel_rfl) (fun _ _ _ h => h) (by kernel_rfl) (Ext.stable _) hCD (yieldsU_val rfl (fun u hu => by obtain ⟨q0, q1, q2, q3⟩ := (KX.out.bel hu).cells; go_simp)) ?_
        refine anyU_takeP (i := 20) (j := 37) (v := .int .i64 (k : Int)) 38 [29, 23, 22, 21] rfl rfl (by kernel_rfl) (by kernel_rfl) (by kernel_rfl) (fun _ _ _ h => h) (by kernel_rfl) (Ext.stable _) hCD (yieldsU_val rfl (fun u hu => by go_simp)) ?_
        refine anyU_takeP (i := 21) (j := 37) (v := .bool true) 39 [29, 23, 22] rfl rfl (by kernel_rfl) (by kernel_rfl) (by kernel_rfl) (fun _ _ _ h => h) (by kernel_rfl) (Ext.stable _) hCD (yieldsU_val rfl (fun u hu => by go_simp)) ?_
        refine anyU_takeP (i := 22) (j := 37) (v := .bool true) 40 [29, 23] rfl rfl (by kernel_rfl) (by kernel_rfl) (by kernel_rfl) (fun _ _ _ h => h) (by kernel_rfl) (Ext.stable _) hCD (yieldsU_val rfl (fun u hu => by go_simp)) ?_
        refine anyU_takeP (i := 23) (j := 37) (v := .bool true) 41 [29] rfl rfl (by kernel_rfl) (by kernel_rfl) (by kernel_rfl) (fun _ _ _ h => h) (by kernel_rfl) (Ext.stable _) hCD (yieldsU_val rfl (fun u hu => by go_simp)) ?_
        simp only [Act.put, List.setIfInBounds_toArray, List.set_cons_succ, List.set_cons_zero]
        refine anyU_takeP (i := 24) (j := 37) (v := undef) 42 [29, 28, 27, 26, 25] rfl rfl (by kernel_rfl) (by kernel_rfl) (by kernel_rfl) (fun _ _ _ h => h) (by kernel_rfl) (Ext.stable _) hCD (.inr ⟨by rfl, rfl⟩) ?_
        refine anyU_takeP (i := 25) (j := 37) (v := undef) 43 [29, 28, 27, 26] rfl rfl (by kernel_rfl) (by kernel_rfl) (by kernel_rfl) (fun _ _ _ h => h) (by kernel_rfl) (Ext.stable _) hCD (.inr ⟨by rfl, rfl⟩) ?_
        refine anyU_takeP (i := 26) (j := 37) (v := undef) 44 [29, 28, 27] rfl rfl (by kernel_rfl) (by kernel_rfl) (by kernel_rfl) (fun _ _ _ h => h) (by kernel_rfl) (Ext.stable _) hCD (.inr ⟨by rfl, rfl⟩) ?_
        refine anyU_takeP (i := 27) (j := 37) (v := undef) 45 [29, 28] rfl rfl (by kernel_rfl) (by kernel_rfl) (by kernel_rfl) (fun _ _ _ h => h) (by kernel_rfl) (Ext.stable _) hCD (.inr ⟨by rfl, rfl⟩) ?_
        refine anyU_takeP (i := 28) (j := 37) (v := .bool true) 46 [29] rfl rfl (by kernel_rfl) (by kernel_rfl) (by kernel_rfl) (fun _ _ _ h => h) (by kernel_rfl) (Ext.stable _) hCD (yieldsU_val rfl (fun u hu => by go_simp)) ?_
        refine anyU_takeP (i := 29) (j := 37) (v := .bool true) 47 [] rfl rfl (by kernel_rfl) (by kernel_rfl) (by kernel_rfl) (fun _ _ _ h => h) (by kernel_rfl) (Ext.stable _) hCD (yieldsU_val rfl (fun u hu => by go_simp)) ?_
        simp only [Act.put, List.setIfInBounds_toArray, List.set_cons_succ, List.set_cons_zero]
        refine anyU_takeP (i := 30) (j := 37) (v := undef) 48 [36, 31] rfl rfl (by kernel_rfl) (by kernel_rfl) (by kernel_rfl) (fun _ _ _ h => h) (by kernel_rfl) (Ext.stable _) hCD (.inr ⟨by rfl, rfl⟩) ?_
        refine anyU_takeP (i := 31) (j := 37) (v := undef) 49 [36] rfl rfl (by kernel_rfl) (by kernel_rfl) (by kernel_rfl) (fun _ _ _ h => h) (by kernel_rfl) (Ext.stable _) hCD (.inr ⟨by rfl, rfl⟩) ?_
        refine anyU_takeP (i := 32) (j := 37) (v := undef) 50 [36, 35, 34] rfl rfl (by kernel_rfl) (by kernel_rfl) (by kernel_rfl) (fun _ _ _ h => h) (by kernel_rfl) (Ext.stable _) hCD (.inr ⟨by rfl, rfl⟩) ?_
        refine anyU_takeP (i := 33) (j := 37) (v := undef) 51 [36, 35, 34] rfl rfl (by kernel_rfl) (by kernel_rfl) (by kernel_rfl) (fun _ _ _ h => h) (by kernel_rfl) (Ext.stable _) hCD (.inr ⟨by rfl, rfl⟩) ?_
        simp only [Act.put, List.setIfInBounds_toArray, List.set_cons_succ, List.set_cons_zero]
        refine anyU_takeP (i := 34) (j := 37) (v := undef) 52 [36, 35] rfl rfl (by kernel_rfl) (by kernel_rfl) (by kernel_rfl) (fun _ _ _ h => h) (by kernel_rfl) (Ext.stable _) hCD (.inr ⟨by rfl, rfl⟩) ?_
        refine anyU_takeP (i := 35) (j := 37) (v := undef) 53 [36] rfl rfl (by kernel_rfl) (by kernel_rfl) (by kernel_rfl) (fun _ _ _ h => h) (by kernel_rfl) (Ext.stable _) hCD (.inr ⟨by rfl, rfl⟩) ?_
        simp only [Act.put, List.setIfInBounds_toArray, List.set_cons_succ, List.set_cons_zero]
        refine anyU_takeP (i := 36) (j := 37) (v := undef) 54 [] rfl rfl (by kernel_rfl) (by kernel_rfl) (by kernel_rfl) (fun _ _ _ h => h) (by kernel_rfl) (Ext.stable _) hCD (.inr ⟨by rfl, rfl⟩) ?_
        refine anyU_tail 37 [] rfl rfl (by decide) (by kernel_rfl) ?_
        intro u hu
        simp only [Act.put, List.filterMap_cons, List.filterMap_nil, List.getElem?_cons_succ, List.getElem?_cons_zero]
        have BU := Lib.hid (bel_trans BX.out hu)
        clear hu
        have HE := Lib.hid (he.out.det (.inr ⟨⟨k, by have := HN.out; omega, HF.out⟩, rfl⟩))
        go_wp2_with fail
        go_ret
        rw [HE.out]
        exact ⟨rfl, BU.out⟩
      have HNO := Lib.hid h3
      have HFT := Lib.hid (show fldB ls k = true by rw [HFB.out, h3]; have := HV.out; have := HXM.out; simp; omega)
      clear h3 h0 h1
      have hd5 : decide ((65536 : Int) < (x.m : Int)) = false := decide_eq_false (by omega)
      obtain ⟨zs, hzs⟩ : ∃ zs, x.prev = zs := ⟨_, rfl⟩
      have hzl := Lib.hid (show zs.length = 32 by rw [← hzs]; exact hxl.out)
      have HZS := Lib.hid hzs
      have HDS := Lib.hid (headOf_is (ls.take k))
      rw [hzs] at HPV
      obtain ⟨ds, hds⟩ : ∃ ds, headOf (ls.take k) = ds := ⟨_, rfl⟩
      rw [hds] at HDS HPV
      have hdl := Lib.hid HDS.out.tg.len
      have hkn : k ≤ n := by omega
      have hkc : k ≤ c := by omega
      clear hzs hds
      by_cases h5 : zs = ds
      case neg =>
        have EQ : ∀ u, (Op.equalIn 10000 35 (.agg (bv zs).toArray) (.agg (bv ds).toArray)).run Tryd.prog u = .ok false u := fun u => by rw [eqDig_any zs ds hzl.out hdl.out u, decide_eq_false h5]
        have HF := Lib.hid (show linB ls k = false by unfold linB; rw [HPV.out, show (zs == ds) = false by simpa using h5]; simp)
        refine region_U (D := Ext V) (Ext V) [37] (Ext.refl V) ?_
        refine anyU_takeP (i := 0) (j := 37) (v := .pointer (some ⟨xb, 0, none⟩)) 18 [29, 23, 17, 8, 3, 2, 1] rfl rfl (by kernel_rfl) (by kernel_rfl) (by kernel_rfl) (fun _ _ _ h => h) (by kernel_rfl) (Ext.stable _) hCD (yieldsU_val rfl (fun u hu => by go_simp)) ?_
        refine anyU_takeP (i := 1) (j := 37) (v := .int .i64 x.node) 19 [29, 23, 17, 8, 3, 2] rfl rfl (by kernel_rfl) (by kernel_rfl) (by kernel_rfl) (fun _ _ _ h => h) (by kernel_rfl) (Ext.stable _) hCD (yieldsU_val rfl (fun u hu => by obtain ⟨q0, q1, q2, q3⟩ := (KX.out.bel hu).cells; go_simp)) ?_
        refine anyU_takeP (i := 2) (j := 37) (v := .bool false) 20 [29, 23, 17, 8, 3] rfl rfl (by kernel_rfl) (by kernel_rfl) (by kernel_rfl) (fun _ _ _ h => h) (by kernel_rfl) (Ext.stable _) hCD (yieldsU_val rfl (fun u hu => by go_simp)) ?_
        refine anyU_takeP (i := 3) (j := 37) (v := .bool false) 21 [29, 23, 17, 8] rfl rfl (by kernel_rfl) (by kernel_rfl) (by kernel_rfl) (fun _ _ _ h => h) (by kernel_rfl) (Ext.stable _) hCD (yieldsU_val rfl (fun u hu => by go_simp)) ?_
        simp only [Act.put, List.setIfInBounds_toArray, List.set_cons_succ, List.set_cons_zero]
        refine anyU_takeP (i := 4) (j := 37) (v := .pointer (some ⟨xb, 0, none⟩)) 22 [29, 23, 17, 8, 7, 6, 5] rfl rfl (by kernel_rfl) (by kernel_rfl) (by kernel_rfl) (fun _ _ _ h => h) (by kernel_rfl) (Ext.stable _) hCD (yieldsU_val rfl (fun u hu => by go_simp)) ?_
        refine anyU_takeP (i := 5) (j := 37) (v := .int .i64 x.node) 23 [29, 23, 17, 8, 7, 6] rfl rfl (by kernel_rfl) (by kernel_rfl) (by kernel_rfl) (fun _ _ _ h => h) (by kernel_rfl) (Ext.stable _) hCD (yieldsU_val rfl (fun u hu => by obtain ⟨q0, q1, q2, q3⟩ := (KX.out.bel hu).cells; go_simp)) ?_
        refine anyU_takeP (i := 6) (j := 37) (v := .bool false) 24 [29, 23, 17, 8, 7] rfl rfl (by kernel_rfl) (by kernel_rfl) (by kernel_rfl) (fun _ _ _ h => h) (by kernel_rfl) (Ext.stable _) hCD (yieldsU_val rfl (fun u hu => by go_simp)) ?_
        refine anyU_takeP (i := 7) (j := 37) (v := .bool false) 25 [29, 23, 17, 8] rfl rfl (by kernel_rfl) (by kernel_rfl) (by kernel_rfl) (fun _ _ _ h => h) (by kernel_rfl) (Ext.stable _) hCD (yieldsU_val rfl (fun u hu => by go_simp)) ?_
        refine anyU_takeP (i := 8) (j := 37) (v := .bool false) 26 [29, 23, 17] rfl rfl (by kernel_rfl) (by kernel_rfl) (by kernel_rfl) (fun _ _ _ h => h) (by kernel_rfl) (Ext.stable _) hCD (yieldsU_val rfl (fun u hu => by go_simp)) ?_
        simp only [Act.put, List.setIfInBounds_toArray, List.set_cons_succ, List.set_cons_zero]
        refine anyU_takeP (i := 9) (j := 37) (v := .pointer (some ⟨xb, 0, none⟩)) 27 [29, 23, 17, 16, 15, 10] rfl rfl (by kernel_rfl) (by kernel_rfl) (by kernel_rfl) (fun _ _ _ h => h) (by kernel_rfl) (Ext.stable _) hCD (yieldsU_val rfl (fun u hu => by go_simp)) ?_
        refine anyU_takeP (i := 10) (j := 37) (v := .int .i64 x.node) 28 [29, 23, 17, 16, 15] rfl rfl (by kernel_rfl) (by kernel_rfl) (by kernel_rfl) (fun _ _ _ h => h) (by kernel_rfl) (Ext.stable _) hCD (yieldsU_val rfl (fun u hu => by obtain ⟨q0, q1, q2, q3⟩ := (KX.out.bel hu).cells; go_simp)) ?_
        refine anyU_takeP (i := 11) (j := 37) (v := .slice (some ⟨b, off, none⟩) n c) 29 [29, 23, 17, 16, 15, 14, 13, 12] rfl rfl (by kernel_rfl) (by kernel_rfl) (by kernel_rfl) (fun _ _ _ h => h) (by kernel_rfl) (Ext.stable _) hCD (yieldsU_val rfl (fun u hu => by go_simp)) ?_
        refine anyU_takeP (i := 12) (j := 37) (v := .pointer (some ⟨b, off, none⟩)) 30 [29, 23, 17, 16, 15, 14, 13] rfl rfl (by kernel_rfl) (by kernel_rfl) (by kernel_rfl) (fun _ _ _ h => h) (by kernel_rfl) (Ext.stable _) hCD (yieldsU_val rfl (fun u hu => by first | (go_simp; done) | (go_simp; intro h; omega))) ?_
        simp only [Act.put, List.setIfInBounds_toArray, List.set_cons_succ, List.set_cons_zero]
        refine anyU_takeP (i := 13) (j := 37) (v := .pointer (some ⟨b, off, none⟩)) 31 [29, 23, 17, 16, 15, 14] rfl rfl (by kernel_rfl) (by kernel_rfl) (by kernel_rfl) (fun _ _ _ h => h) (by kernel_rfl) (Ext.stable _) hCD (yieldsU_val rfl (fun u hu => by go_simp)) ?_
        refine anyU_takeP (i := 14) (j := 37) (v := .int .i64 x.node) 32 [29, 23, 17, 16, 15] rfl rfl (by kernel_rfl) (by kernel_rfl) (by kernel_rfl) (fun _ _ _ h => h) (by kernel_rfl) (Ext.stable _) hCD (yieldsU_val rfl (fun u hu => by have cc := (hu.cell (p := ⟨b, off, none⟩) hbV).trans N0.out; go_simp)) ?_
        refine anyU_takeP (i := 15) (j := 37) (v := .bool false) 33 [29, 23, 17, 16] rfl rfl (by kernel_rfl) (by kernel_rfl) (by kernel_rfl) (fun _ _ _ h => h) (by kernel_rfl) (Ext.stable _) hCD (yieldsU_val rfl (fun u hu => by go_simp)) ?_
        refine anyU_takeP (i := 16) (j := 37) (v := .bool false) 34 [29, 23, 17] rfl rfl (by kernel_rfl) (by kernel_rfl) (by kernel_rfl) (fun _ _ _ h => h) (by kernel_rfl) (Ext.stable _) hCD (yieldsU_val rfl (fun u hu => by go_simp)) ?_
        refine anyU_takeP (i := 17) (j := 37) (v := .bool false) 35 [29, 23] rfl rfl (by kernel_rfl) (by kernel_rfl) (by kernel_rfl) (fun _ _ _ h => h) (by kernel_rfl) (Ext.stable _) hCD (yieldsU_val rfl (fun u hu => by go_simp)) ?_
        simp only [Act.put, List.setIfInBounds_toArray, List.set_cons_succ, List.set_cons_zero]
        refine anyU_takeP (i := 18) (j := 37) (v := .pointer (some ⟨xb, 1, none⟩)) 36 [29, 23, 22, 21, 19] rfl rfl (by kernel_rfl) (by kernel_rfl) (by kernel_rfl) (fun _ _ _ h => h) (by kernel_rfl) (Ext.stable _) hCD (yieldsU_val rfl (fun u hu => by go_simp)) ?_
        refine anyU_takeP (i := 19) (j := 37) (v := .int .i64 (k : Int)) 37 [29, 23, 22, 21] rfl rfl (by kernel_rfl) (by kernel_rfl) (by kernel_rfl) (fun _ _ _ h => h) (by kernel_rfl) (Ext.stable _) hCD (yieldsU_val rfl (fun u hu => by obtain ⟨q0, q1, q2, q3⟩ := (KX.out.bel hu).cells; rw [HNO.out] at q1; go_simp)) ?_
        refine anyU_takeP (i := 20) (j := 37) (v := .int .i64 (k : Int)) 38 [29, 23, 22, 21] rfl rfl (by kernel_rfl) (by kernel_rfl) (by kernel_rfl) (fun _ _ _ h => h) (by kernel_rfl) (Ext.stable _) hCD (yieldsU_val rfl (fun u hu => by go_simp)) ?_
        refine anyU_takeP (i := 21) (j := 37) (v := .bool false) 39 [29, 23, 22] rfl rfl (by kernel_rfl) (by kernel_rfl) (by kernel_rfl) (fun _ _ _ h => h) (by kernel_rfl) (Ext.stable _) hCD (yieldsU_val rfl (fun u hu => by go_simp)) ?_
        refine anyU_takeP (i := 22) (j := 37) (v := .bool false) 40 [29, 23] rfl rfl (by kernel_rfl) (by kernel_rfl) (by kernel_rfl) (fun _ _ _ h => h) (by kernel_rfl) (Ext.stable _) hCD (yieldsU_val rfl (fun u hu => by go_simp)) ?_
        refine anyU_takeP (i := 23) (j := 37) (v := .bool false) 41 [29] rfl rfl (by kernel_rfl) (by kernel_rfl) (by kernel_rfl) (fun _ _ _ h => h) (by kernel_rfl) (Ext.stable _) hCD (yieldsU_val rfl (fun u hu => by go_simp)) ?_
        simp only [Act.put, List.setIfInBounds_toArray, List.set_cons_succ, List.set_cons_zero]
        refine anyU_takeP (i := 24) (j := 37) (v := .pointer (some ⟨xb, 34, none⟩)) 42 [29, 28, 27, 26, 25] rfl rfl (by kernel_rfl) (by kernel_rfl) (by kernel_rfl) (fun _ _ _ h => h) (by kernel_rfl) (Ext.stable _) hCD (yieldsU_val rfl (fun u hu => by go_simp)) ?_
        refine anyU_takeP (i := 25) (j := 37) (v := .slice x.p x.m x.c) 43 [29, 28, 27, 26] rfl rfl (by kernel_rfl) (by kernel_rfl) (by kernel_rfl) (fun _ _ _ h => h) (by kernel_rfl) (Ext.stable _) hCD (yieldsU_val rfl (fun u hu => by obtain ⟨q0, q1, q2, q3⟩ := (KX.out.bel hu).cells; go_simp)) ?_
        refine anyU_takeP (i := 26) (j := 37) (v := .int .i64 (x.m : Int)) 44 [29, 28, 27] rfl rfl (by kernel_rfl) (by kernel_rfl) (by kernel_rfl) (fun _ _ _ h => h) (by kernel_rfl) (Ext.stable _) hCD (yieldsU_val rfl (fun u hu => by go_simp)) ?_
        refine anyU_takeP (i := 27) (j := 37) (v := .bool false) 45 [29, 28] rfl rfl (by kernel_rfl) (by kernel_rfl) (by kernel_rfl) (fun _ _ _ h => h) (by kernel_rfl) (Ext.stable _) hCD (yieldsU_val rfl (fun u hu => by go_simp)) ?_
        refine anyU_takeP (i := 28) (j := 37) (v := .bool false) 46 [29] rfl rfl (by kernel_rfl) (by kernel_rfl) (by kernel_rfl) (fun _ _ _ h => h) (by kernel_rfl) (Ext.stable _) hCD (yieldsU_val rfl (fun u hu => by go_simp)) ?_
        refine anyU_takeP (i := 29) (j := 37) (v := .bool false) 47 [] rfl rfl (by kernel_rfl) (by kernel_rfl) (by kernel_rfl) (fun _ _ _ h => h) (by kernel_rfl) (Ext.stable _) hCD (yieldsU_val rfl (fun u hu => by go_simp)) ?_
        simp only [Act.put, List.setIfInBounds_toArray, List.set_cons_succ, List.set_cons_zero]
        refine anyU_takeP (i := 30) (j := 37) (v := .pointer (some ⟨xb, 2, none⟩)) 48 [36, 31] rfl rfl (by kernel_rfl) (by kernel_rfl) (by kernel_rfl) (fun _ _ _ h => h) (by kernel_rfl) (Ext.stable _) hCD (yieldsU_val rfl (fun u hu => by go_simp)) ?_
        refine anyU_takeP (i := 31) (j := 37) (v := .agg (bv zs).toArray) 49 [36] rfl rfl (by kernel_rfl) (by kernel_rfl) (by kernel_rfl) (fun _ _ _ h => h) (by kernel_rfl) (Ext.stable _) hCD (yieldsU_of_C (yields_loadM (by rfl) (.tmp 48) rfl xb 2 rfl zs hzl.out (fun u hu => by have := (KX.out.bel hu).cells.2.2.1; rw [HZS.out] at this; exact this))) ?_
        refine anyU_takeP (i := 32) (j := 37) (v := .slice (some ⟨b, off, none⟩) n c) 50 [36, 35, 34] rfl rfl (by kernel_rfl) (by kernel_rfl) (by kernel_rfl) (fun _ _ _ h => h) (by kernel_rfl) (Ext.stable _) hCD (yieldsU_val rfl (fun u hu => by go_simp)) ?_
        refine anyU_takeP (i := 33) (j := 37) (v := .int .i64 (k : Int)) 51 [36, 35, 34] rfl rfl (by kernel_rfl) (by kernel_rfl) (by kernel_rfl) (fun _ _ _ h => h) (by kernel_rfl) (Ext.stable _) hCD (yieldsU_val rfl (fun u hu => by go_simp)) ?_
        simp only [Act.put, List.setIfInBounds_toArray, List.set_cons_succ, List.set_cons_zero]
        refine anyU_takeP (i := 34) (j := 37) (v := .slice (some ⟨b, off, none⟩) k c) 52 [36, 35] rfl rfl (by kernel_rfl) (by kernel_rfl) (by kernel_rfl) (fun _ _ _ h => h) (by kernel_rfl) (Ext.stable _) hCD (yieldsU_val rfl (fun u hu => by go_simp)) ?_
        refine anyU_takeP (i := 35) (j := 37) (v := .agg (bv ds).toArray) 53 [36] rfl rfl (by kernel_rfl) (by kernel_rfl) (by kernel_rfl) (fun _ _ _ h => h) (by kernel_rfl) (Ext.stable _) hCD (yieldsU_call rfl 24 _ _ rfl #[.slice (some ⟨b, off, none⟩) k c] (by simp [Act.eval, Act.put]) (fun u => by go_simp) (fun u hu => rhead_is (some ⟨b, off, none⟩) k c (ls.take k) u (Lib.hid ((hs.out.below (bel_trans BX.out hu)).take hkn)) (Lib.hid (hsm.out.take k)) ds HDS)) ?_
        simp only [Act.put, List.setIfInBounds_toArray, List.set_cons_succ, List.set_cons_zero]
        refine anyU_takeP (i := 36) (j := 37) (v := .bool true) 54 [] rfl rfl (by kernel_rfl) (by kernel_rfl) (by kernel_rfl) (fun _ _ _ h => h) (by kernel_rfl) (Ext.stable _) hCD (yieldsU_val rfl (fun u hu => by have e := EQ u; go_simp)) ?_
        refine anyU_tail 37 [] rfl rfl (by decide) (by kernel_rfl) ?_
        intro u hu
        simp only [Act.put, List.filterMap_cons, List.filterMap_nil, List.getElem?_cons_succ, List.getElem?_cons_zero]
        have BU := Lib.hid (bel_trans BX.out hu)
        clear hu
        have HE := Lib.hid (he.out.det (.inr ⟨⟨k, by have := HN.out; omega, HF.out⟩, rfl⟩))
        go_wp2_with fail
        go_ret
        rw [HE.out]
        exact ⟨rfl, BU.out⟩
      have EQ : ∀ u, (Op.equalIn 10000 35 (.agg (bv zs).toArray) (.agg (bv ds).toArray)).run Tryd.prog u = .ok true u := fun u => by rw [eqDig_any zs ds hzl.out hdl.out u, decide_eq_true h5]
      have HT := Lib.hid (show linB ls k = true by unfold linB; rw [HFT.out, HPV.out, h5]; simp)
      clear h5
      refine region_U (D := Ext V) (Ext V) [37] (Ext.refl V) ?_
      refine anyU_takeP (i := 0) (j := 37) (v := .pointer (some ⟨xb, 0, none⟩)) 18 [29, 23, 17, 8, 3, 2, 1] rfl rfl (by kernel_rfl) (by kernel_rfl) (by kernel_rfl) (fun _ _ _ h => h) (by kernel_rfl) (Ext.stable _) hCD (yieldsU_val rfl (fun u hu => by go_simp)) ?_
      refine anyU_takeP (i := 1) (j := 37) (v := .int .i64 x.node) 19 [29, 23, 17, 8, 3, 2] rfl rfl (by kernel_rfl) (by kernel_rfl) (by kernel_rfl) (fun _ _ _ h => h) (by kernel_rfl) (Ext.stable _) hCD (yieldsU_val rfl (fun u hu => by obtain ⟨q0, q1, q2, q3⟩ := (KX.out.bel hu).cells; go_simp)) ?_
      refine anyU_takeP (i := 2) (j := 37) (v := .bool false) 20 [29, 23, 17, 8, 3] rfl rfl (by kernel_rfl) (by kernel_rfl) (by kernel_rfl) (fun _ _ _ h => h) (by kernel_rfl) (Ext.stable _) hCD (yieldsU_val rfl (fun u hu => by go_simp)) ?_
      refine anyU_takeP (i := 3) (j := 37) (v := .bool false) 21 [29, 23, 17, 8] rfl rfl (by kernel_rfl) (by kernel_rfl) (by kernel_rfl) (fun _ _ _ h => h) (by kernel_rfl) (Ext.stable _) hCD (yieldsU_val rfl (fun u hu => by go_simp)) ?_
      simp only [Act.put, List.setIfInBounds_toArray, List.set_cons_succ, List.set_cons_zero]
      refine anyU_takeP (i := 4) (j := 37) (v := .pointer (some ⟨xb, 0, none⟩)) 22 [29, 23, 17, 8, 7, 6, 5] rfl rfl (by kernel_rfl) (by kernel_rfl) (by kernel_rfl) (fun _ _ _ h => h) (by kernel_rfl) (Ext.stable _) hCD (yieldsU_val rfl (fun u hu => by go_simp)) ?_
      refine anyU_takeP (i := 5) (j := 37) (v := .int .i64 x.node) 23 [29, 23, 17, 8, 7, 6] rfl rfl (by kernel_rfl) (by kernel_rfl) (by kernel_rfl) (fun _ _ _ h => h) (by kernel_rfl) (Ext.stable _) hCD (yieldsU_val rfl (fun u hu => by obtain ⟨q0, q1, q2, q3⟩ := (KX.out.bel hu).cells; go_simp)) ?_
      refine anyU_takeP (i := 6) (j := 37) (v := .bool false) 24 [29, 23, 17, 8, 7] rfl rfl (by kernel_rfl) (by kernel_rfl) (by kernel_rfl) (fun _ _ _ h => h) (by kernel_rfl) (Ext.stable _) hCD (yieldsU_val rfl (fun u hu => by go_simp)) ?_
      refine anyU_takeP (i := 7) (j := 37) (v := .bool false) 25 [29, 23, 17, 8] rfl rfl (by kernel_rfl) (by kernel_rfl) (by kernel_rfl) (fun _ _ _ h => h) (by kernel_rfl) (Ext.stable _) hCD (yieldsU_val rfl (fun u hu => by go_simp)) ?_
      refine anyU_takeP (i := 8) (j := 37) (v := .bool false) 26 [29, 23, 17] rfl rfl (by kernel_rfl) (by kernel_rfl) (by kernel_rfl) (fun _ _ _ h => h) (by kernel_rfl) (Ext.stable _) hCD (yieldsU_val rfl (fun u hu => by go_simp)) ?_
      simp only [Act.put, List.setIfInBounds_toArray, List.set_cons_succ, List.set_cons_zero]
      refine anyU_takeP (i := 9) (j := 37) (v := .pointer (some ⟨xb, 0, none⟩)) 27 [29, 23, 17, 16, 15, 10] rfl rfl (by kernel_rfl) (by kernel_rfl) (by kernel_rfl) (fun _ _ _ h => h) (by kernel_rfl) (Ext.stable _) hCD (yieldsU_val rfl (fun u hu => by go_simp)) ?_
      refine anyU_takeP (i := 10) (j := 37) (v := .int .i64 x.node) 28 [29, 23, 17, 16, 15] rfl rfl (by kernel_rfl) (by kernel_rfl) (by kernel_rfl) (fun _ _ _ h => h) (by kernel_rfl) (Ext.stable _) hCD (yieldsU_val rfl (fun u hu => by obtain ⟨q0, q1, q2, q3⟩ := (KX.out.bel hu).cells; go_simp)) ?_
      refine anyU_takeP (i := 11) (j := 37) (v := .slice (some ⟨b, off, none⟩) n c) 29 [29, 23, 17, 16, 15, 14, 13, 12] rfl rfl (by kernel_rfl) (by kernel_rfl) (by kernel_rfl) (fun _ _ _ h => h) (by kernel_rfl) (Ext.stable _) hCD (yieldsU_val rfl (fun u hu => by go_simp)) ?_
      refine anyU_takeP (i := 12) (j := 37) (v := .pointer (some ⟨b, off, none⟩)) 30 [29, 23, 17, 16, 15, 14, 13] rfl rfl (by kernel_rfl) (by kernel_rfl) (by kernel_rfl) (fun _ _ _ h => h) (by kernel_rfl) (Ext.stable _) hCD (yieldsU_val rfl (fun u hu => by first | (go_simp; done) | (go_simp; intro h; omega))) ?_
      simp only [Act.put, List.setIfInBounds_toArray, List.set_cons_succ, List.set_cons_zero]
      refine anyU_takeP (i := 13) (j := 37) (v := .pointer (some ⟨b, off, none⟩)) 31 [29, 23, 17, 16, 15, 14] rfl rfl (by kernel_rfl) (by kernel_rfl) (by kernel_rfl) (fun _ _ _ h => h) (by kernel_rfl) (Ext.stable _) hCD (yieldsU_val rfl (fun u hu => by go_simp)) ?_
      refine anyU_takeP (i := 14) (j := 37) (v := .int .i64 x.node) 32 [29, 23, 17, 16, 15] rfl rfl (by kernel_rfl) (by kernel_rfl) (by kernel_rfl) (fun _ _ _ h => h) (by kernel_rfl) (Ext.stable _) hCD (yieldsU_val rfl (fun u hu => by have cc := (hu.cell (p := ⟨b, off, none⟩) hbV).trans N0.out; go_simp)) ?_
      refine anyU_takeP (i := 15) (j := 37) (v := .bool false) 33 [29, 23, 17, 16] rfl rfl (by kernel_rfl) (by kernel_rfl) (by kernel_rfl) (fun _ _ _ h => h) (by kernel_rfl) (Ext.stable _) hCD (yieldsU_val rfl (fun u hu => by go_simp)) ?_
      refine anyU_takeP (i := 16) (j := 37) (v := .bool false) 34 [29, 23, 17] rfl rfl (by kernel_rfl) (by kernel_rfl) (by kernel_rfl) (fun _ _ _ h => h) (by kernel_rfl) (Ext.stable _) hCD (yieldsU_val rfl (fun u hu => by go_simp)) ?_
      refine anyU_takeP (i := 17) (j := 37) (v := .bool false) 35 [29, 23] rfl rfl (by kernel_rfl) (by kernel_rfl) (by kernel_rfl) (fun _ _ _ h => h) (by kernel_rfl) (Ext.stable _) hCD (yieldsU_val rfl (fun u hu => by go_simp)) ?_
      simp only [Act.put, List.setIfInBounds_toArray, List.set_cons_succ, List.set_cons_zero]
      refine anyU_takeP (i := 18) (j := 37) (v := .pointer (some ⟨xb, 1, none⟩)) 36 [29, 23, 22, 21, 19] rfl rfl (by kernel_rfl) (by kernel_rfl) (by kernel_rfl) (fun _ _ _ h => h) (by kernel_rfl) (Ext.stable _) hCD (yieldsU_val rfl (fun u hu => by go_simp)) ?_
      refine anyU_takeP (i := 19) (j := 37) (v := .int .i64 (k : Int)) 37 [29, 23, 22, 21] rfl rfl (by kernel_rfl) (by kernel_rfl) (by kernel_rfl) (fun _ _ _ h => h) (by kernel_rfl) (Ext.stable _) hCD (yieldsU_val rfl (fun u hu => by obtain ⟨q0, q1, q2, q3⟩ := (KX.out.bel hu).cells; rw [HNO.out] at q1; go_simp)) ?_
      refine anyU_takeP (i := 20) (j := 37) (v := .int .i64 (k : Int)) 38 [29, 23, 22, 21] rfl rfl (by kernel_rfl) (by kernel_rfl) (by kernel_rfl) (fun _ _ _ h => h) (by kernel_rfl) (Ext.stable _) hCD (yieldsU_val rfl (fun u hu => by go_simp)) ?_
      refine anyU_takeP (i := 21) (j := 37) (v := .bool false) 39 [29, 23, 22] rfl rfl (by kernel_rfl) (by kernel_rfl) (by kernel_rfl) (fun _ _ _ h => h) (by kernel_rfl) (Ext.stable _) hCD (yieldsU_val rfl (fun u hu => by go_simp)) ?_
      refine anyU_takeP (i := 22) (j := 37) (v := .bool false) 40 [29, 23] rfl rfl (by kernel_rfl) (by kernel_rfl) (by kernel_rfl) (fun _ _ _ h => h) (by kernel_rfl) (Ext.stable _) hCD (yieldsU_val rfl (fun u hu => by go_simp)) ?_
      refine anyU_takeP (i := 23) (j := 37) (v := .bool false) 41 [29] rfl rfl (by kernel_rfl) (by kernel_rfl) (by kernel_rfl) (fun _ _ _ h => h) (by kernel_rfl) (Ext.stable _) hCD (yieldsU_val rfl (fun u hu => by go_simp)) ?_
      simp only [Act.put, List.setIfInBounds_toArray, List.set_cons_succ, List.set_cons_zero]
      refine anyU_takeP (i := 24) (j := 37) (v := .pointer (some ⟨xb, 34, none⟩)) 42 [29, 28, 27, 26, 25] rfl rfl (by kernel_rfl) (by kernel_rfl) (by kernel_rfl) (fun _ _ _ h => h) (by kernel_rfl) (Ext.stable _) hCD (yieldsU_val rfl (fun u hu => by go_simp)) ?_
      refine anyU_takeP (i := 25) (j := 37) (v := .slice x.p x.m x.c) 43 [29, 28, 27, 26] rfl rfl (by kernel_rfl) (by kernel_rfl) (by kernel_rfl) (fun _ _ _ h => h) (by kernel_rfl) (Ext.stable _) hCD (yieldsU_val rfl (fun u hu => by obtain ⟨q0, q1, q2, q3⟩ := (KX.out.bel hu).cells; go_simp)) ?_
      refine anyU_takeP (i := 26) (j := 37) (v := .int .i64 (x.m : Int)) 44 [29, 28, 27] rfl rfl (by kernel_rfl) (by kernel_rfl) (by kernel_rfl) (fun _ _ _ h => h) (by kernel_rfl) (Ext.stable _) hCD (yieldsU_val rfl (fun u hu => by go_simp)) ?_
      refine anyU_takeP (i := 27) (j := 37) (v := .bool false) 45 [29, 28] rfl rfl (by kernel_rfl) (by kernel_rfl) (by kernel_rfl) (fun _ _ _ h => h) (by kernel_rfl) (Ext.stable _) hCD (yieldsU_val rfl (fun u hu => by go_simp)) ?_
      refine anyU_takeP (i := 28) (j := 37) (v := .bool false) 46 [29] rfl rfl (by kernel_rfl) (by kernel_rfl) (by kernel_rfl) (fun _ _ _ h => h) (by kernel_rfl) (Ext.stable _) hCD (yieldsU_val rfl (fun u hu => by go_simp)) ?_
      refine anyU_takeP (i := 29) (j := 37) (v := .bool false) 47 [] rfl rfl (by kernel_rfl) (by kernel_rfl) (by kernel_rfl) (fun _ _ _ h => h) (by kernel_rfl) (Ext.stable _) hCD (yieldsU_val rfl (fun u hu => by go_simp)) ?_
      simp only [Act.put, List.setIfInBounds_toArray, List.set_cons_succ, List.set_cons_zero]
      refine anyU_takeP (i := 30) (j := 37) (v := .pointer (some ⟨xb, 2, none⟩)) 48 [36, 31] rfl rfl (by kernel_rfl) (by kernel_rfl) (by kernel_rfl) (fun _ _ _ h => h) (by kernel_rfl) (Ext.stable _) hCD (yieldsU_val rfl (fun u hu => by go_simp)) ?_
      refine anyU_takeP (i := 31) (j := 37) (v := .agg (bv zs).toArray) 49 [36] rfl rfl (by kernel_rfl) (by kernel_rfl) (by kernel_rfl) (fun _ _ _ h => h) (by kernel_rfl) (Ext.stable _) hCD (yieldsU_of_C (yields_loadM (by rfl) (.tmp 48) rfl xb 2 rfl zs hzl.out (fun u hu => by have := (KX.out.bel hu).cells.2.2.1; rw [HZS.out] at this; exact this))) ?_
      refine anyU_takeP (i := 32) (j := 37) (v := .slice (some ⟨b, off, none⟩) n c) 50 [36, 35, 34] rfl rfl (by kernel_rfl) (by kernel_rfl) (by kernel_rfl) (fun _ _ _ h => h) (by kernel_rfl) (Ext.stable _) hCD (yieldsU_val rfl (fun u hu => by go_simp)) ?_
      refine anyU_takeP (i := 33) (j := 37) (v := .int .i64 (k : Int)) 51 [36, 35, 34] rfl rfl (by kernel_rfl) (by kernel_rfl) (by kernel_rfl) (fun _ _ _ h => h) (by kernel_rfl) (Ext.stable _) hCD (yieldsU_val rfl (fun u hu => by go_simp)) ?_
      simp only [Act.put, List.setIfInBounds_toArray, List.set_cons_succ, List.set_cons_zero]
      refine anyU_takeP (i := 34) (j := 37) (v := .slice (some ⟨b, off, none⟩) k c) 52 [36, 35] rfl rfl (by kernel_rfl) (by kernel_rfl) (by kernel_rfl) (fun _ _ _ h => h) (by kernel_rfl) (Ext.stable _) hCD (yieldsU_val rfl (fun u hu => by go_simp)) ?_
      refine anyU_takeP (i := 35) (j := 37) (v := .agg (bv ds).toArray) 53 [36] rfl rfl (by kernel_rfl) (by kernel_rfl) (by kernel_rfl) (fun _ _ _ h => h) (by kernel_rfl) (Ext.stable _) hCD (yieldsU_call rfl 24 _ _ rfl #[.slice (some ⟨b, off, none⟩) k c] (by simp [Act.eval, Act.put]) (fun u => by go_simp) (fun u hu => rhead_is (some ⟨b, off, none⟩) k c (ls.take k) u (Lib.hid ((hs.out.below (bel_trans BX.out hu)).take hkn)) (Lib.hid (hsm.out.take k)) ds HDS)) ?_
      simp only [Act.put, List.setIfInBounds_toArray, List.set_cons_succ, List.set_cons_zero]
      refine anyU_takeP (i := 36) (j := 37) (v := .bool false) 54 [] rfl rfl (by kernel_rfl) (by kernel_rfl) (by kernel_rfl) (fun _ _ _ h => h) (by kernel_rfl) (Ext.stable _) hCD (yieldsU_val rfl (fun u hu => by have e := EQ u; go_simp)) ?_
      refine anyU_tail 37 [] rfl rfl (by decide) (by kernel_rfl) ?_
      intro u hu
      simp only [Act.put, List.filterMap_cons, List.filterMap_nil, List.getElem?_cons_succ, List.getElem?_cons_zero]
      have BU := Lib.hid (bel_trans BX.out hu)
      clear hu
      clear EQ
      go_wp2_with fail
      go_roundw
      case rel => exact ⟨k + 1, by omega, by simp, Lib.hid (fun i hi => by
        rcases Nat.lt_or_ge i k with h | h
        · exact HA.out i h
        · obtain rfl : i = k := by omega
          exact HT.out), BU⟩
      case measure => simp [intOf]; omega
    · have hnk : k = n := by omega
      have HE := Lib.hid (he.out.det (.inl ⟨by rw [← HN.out, ← hnk]; exact HA.out, rfl⟩))
      have hd : decide ((k : Int) < (n : Int)) = false := decide_eq_false (by omega)
      clear hnk
      go_wp2_with fail
      go_ret
      rw [HE.out]
      exact ⟨rfl, HB.out⟩
end Go.Proofs.YtllcgehfmkmcdaaDoor
