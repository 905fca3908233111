/- Package chain: Head. -/
import Derived.Test.YtllcgehfmkmcdaaDoorChnVal
import Derived.Test.YtllcgehfmkmcdaaDoorRegP
namespace Go.Proofs.YtllcgehfmkmcdaaDoor
open Go.RowKit
set_option linter.unusedVariables false
set_option linter.unusedSimpArgs false

set_option maxRecDepth 100000 in
theorem lk_atoms {w : World} {b : Nat} {x : Lk} {s1 s2 : ByteArray} (h : Blk w b #[.int .i64 1, .int .i64 x.node, .string ⟨#[]⟩, .slice none 0 0, .int .i64 1, .int .i64 x.no, .string ⟨#[]⟩, .slice none 0 0, .int .i64 2, .int .i64 0, .string s1, .slice none 0 0, .int .i64 2, .int .i64 0, .string s2, .slice none 0 0] 54) (h1 : strB x.prev = s1) (h2 : strB x.bs = s2) : AtomsAt w b 0 (lkA x) := by
  subst h1 h2
  intro k hk
  have hk' : k < 4 := hk
  rcases (by omega : k = 0 ∨ k = 1 ∨ k = 2 ∨ k = 3) with rfl | rfl | rfl | rfl
  · exact ⟨h.cell 0, h.cell 1, h.cell 2, h.cell 3⟩
  · exact ⟨h.cell 4, h.cell 5, h.cell 6, h.cell 7⟩
  · exact ⟨h.cell 8, h.cell 9, h.cell 10, h.cell 11⟩
  · exact ⟨h.cell 12, h.cell 13, h.cell 14, h.cell 15⟩
set_option maxRecDepth 100000 in
set_option maxHeartbeats 2000000 in
theorem chead_nil (p : Option Addr) (c : Nat) (w : World) (hk : Hid (KeysAt w)) (ds : List Int) (hd : Hid (IsHead [] ds)) :
    Calls Tryd.prog 15 #[.slice p 0 c] w fun e w' => e = .returned (.agg (bv ds).toArray) ∧ Below w.heap.size w w' := by
  have hd2 := hd.out.tg
  rw [hd_nil.1, hd_nil.2] at hd2
  have ld := Lib.hid hd2.len
  have HD := Lib.hid hd2
  clear hd hd2
  have D0 := Lib.hid (Dg.new w)
  have B0 := Lib.hid (bel_alloc1 w (.cells (bv (List.replicate 32 0)).toArray 35))
  go_enter Tryd.func15, Tryd.ntmps15
  go_upto_region 1 with fail
  generalize hW : World.alloc w _ = W
  have D1 := Lib.hid (show Dg W w.heap.size (List.replicate 32 0) by rw [← hW]; exact Dg.new w)
  have B1 := Lib.hid (show Below w.heap.size w W by rw [← hW]; exact bel_alloc1 w _)
  clear hW D0 B0
  go_wp2_with (first
    | (go_at_call 19; refine (tagged_is _ tNone none 0 0 [] ds _ (by decide) (Lib.hid (.inl ⟨rfl, .inl ⟨rfl, rfl, rfl⟩⟩)) (Lib.hid (by simp)) (by decide) (by omega) (Lib.hid (hk.out.below B1.out)) HD).mono ?_; rintro e w2 ⟨rfl, hb⟩; have B2 := Lib.hid (bel_trans B1.out hb); have D2 := Lib.hid (D1.out.bel hb); clear hb)
    | (refine list_storeD rfl (.tmp 2) (.tmp 7) rfl w.heap.size rfl ds rfl ld.out (List.replicate 32 0) D2.out ?_))
  intro w3 D3 k3
  have B3 := Lib.hid (B2.out.trans (k3.below (Nat.le_refl _)))
  have D3 := Lib.hid D3
  go_wp2_with fail
  refine bodyPost_ret (results_cell1 (a := ⟨w.heap.size, 0, none⟩) (v := .agg (bv ds).toArray) rfl _ rfl (load_dig D3.out)) rfl ⟨rfl, B3.out⟩
set_option maxRecDepth 100000 in
set_option maxHeartbeats 8000000 in
theorem chead_link (p : Option Addr) (n c k : Nat) (ls : List Lk) (w : World) (hs : Hid (LksV w p n c ls)) (hk : Hid (KeysAt w)) (hn : n = k + 1) (hm : n ≤ 2000) (hsm : Hid (LkSm (ls.getD k lk0))) (ds : List Int) (hd : Hid (IsHead ls ds)) :
    Calls Tryd.prog 15 #[.slice p n c] w fun e w' => e = .returned (.agg (bv ds).toArray) ∧ Below w.heap.size w w' := by
  subst hn
  obtain ⟨b, off, rfl, hb, hr, hl⟩ := hs.out.at (i := k) (by omega)
  have hd2 := hd.out.tg
  rw [(hd_last hs.out.len.symm).1, (hd_last hs.out.len.symm).2] at hd2
  obtain ⟨x, hx⟩ : ∃ x, ls.getD k lk0 = x := ⟨_, rfl⟩
  rw [hx] at hr hl hsm hd2
  have hcap := hs.out.nc
  have hcm := hs.out.cm
  have ld := Lib.hid hd2.len
  have HD := Lib.hid hd2
  have hpl := Lib.hid hl.len
  have SX0 := Lib.hid hl.src
  clear hx hd hd2
  obtain ⟨s1, hs1⟩ : ∃ s, strB x.prev = s := ⟨_, rfl⟩
  obtain ⟨s2, hs2⟩ : ∃ s, strB x.bs = s := ⟨_, rfl⟩
  have S1 := Lib.hid hs1
  have S2 := Lib.hid hs2
  clear hs1 hs2 hs
  have R0 := Lib.hid hr
  clear hr hl
  go_enter Tryd.func15, Tryd.ntmps15
  go_upto_region 1 with fail
  generalize hW : World.alloc w _ = W
  have D1 := Lib.hid (show Dg W w.heap.size (List.replicate 32 0) by rw [← hW]; exact Dg.new w)
  have B1 := Lib.hid (show Below w.heap.size w W by rw [← hW]; exact bel_alloc1 w _)
  have R1 := Lib.hid (bel_range B1.out R0.out hb)
  clear hW
  go_upto_region 3 with fail
  go_wp2_with (first
    | (refine list_loadK (by rfl) (.tmp 12) rfl b (off + k * 35) rfl x hpl.out R1.out ?_)
    | (refine list_storeK rfl (.tmp 3) (.tmp 13) rfl W.heap.size rfl x rfl hpl.out lk0 (KBlk.new W) ?_))
  intro w2 K2 k2
  have B2 := Lib.hid ((bel_alloc1 W _).trans (k2.below (Nat.le_refl _)))
  have K2 := Lib.hid K2
  clear k2
  have D2 := Lib.hid (D1.out.bel B2.out)
  have B2 := Lib.hid (bel_trans B1.out B2.out)
  clear D1 B1 R1
  generalize W.heap.size = xb at K2 ⊢
  go_upto_region 4 with fail
  refine wp_region_any (by kernel_rfl) ?_
  change wpAny _ _ _ _ _ _ _ (World.drew _)
  generalize hWD : World.drew _ = V
  have B1 := Lib.hid (show Below w.heap.size w V by rw [← hWD]; exact B2.out.drew)
  have XX := Lib.hid (show KBlk V xb x by rw [← hWD]; exact K2.out)
  have D1 := Lib.hid (show Dg V w.heap.size (List.replicate 32 0) by rw [← hWD]; exact D2.out.drew)
  have SX := Lib.hid (SX0.out.below B1.out)
  clear hWD B2 K2 D2
  have hCD : ∀ u, Ext V u → Ext V u := fun u hu => hu
  refine region_U (D := Ext V) (Ext V) [15] (Ext.refl V) ?_
  refine anyU_takeP (i := 0) (j := 15) (v := .pointer (some ⟨xb, 0, none⟩)) 14 [] rfl rfl (by kernel_rfl) (by kernel_rfl) (by kernel_rfl) (fun _ _ _ h => h) (by kernel_rfl) (Ext.stable _) hCD (yieldsU_val rfl (fun u hu => by go_simp)) ?_
  refine anyU_takeP (i := 1) (j := 15) (v := .int .i64 x.node) 15 [] rfl rfl (by kernel_rfl) (by kernel_rfl) (by kernel_rfl) (fun _ _ _ h => h) (by kernel_rfl) (Ext.stable _) hCD (yieldsU_val rfl (fun u hu => by have q := (XX.out.bel hu).cells; obtain ⟨q0, q1, q2, q3⟩ := q; go_simp)) ?_
  refine anyU_takeP (i := 2) (j := 15) (v := .agg #[.int .i64 1, .int .i64 x.node, .string ⟨#[]⟩, .slice none 0 0]) 16 [] rfl rfl (by kernel_rfl) (by kernel_rfl) (by kernel_rfl) (fun _ _ _ h => h) (by kernel_rfl) (Ext.stable _) hCD (yieldsU_call rfl 29 _ _ rfl #[.int .i64 x.node] (by simp [Act.eval, Act.put]) (fun u => by go_simp) (fun u hu => cnum_is x.node u)) ?_
  simp only [Act.put, List.setIfInBounds_toArray, List.set_cons_succ, List.set_cons_zero]
  refine anyU_takeP (i := 3) (j := 15) (v := .pointer (some ⟨xb, 1, none⟩)) 17 [] rfl rfl (by kernel_rfl) (by kernel_rfl) (by kernel_rfl) (fun _ _ _ h => h) (by kernel_rfl) (Ext.stable _) hCD (yieldsU_val rfl (fun u hu => by go_simp)) ?_
  refine anyU_takeP (i := 4) (j := 15) (v := .int .i64 x.no) 18 [] rfl rfl (by kernel_rfl) (by kernel_rfl) (by kernel_rfl) (fun _ _ _ h => h) (by kernel_rfl) (Ext.stable _) hCD (yieldsU_val rfl (fun u hu => by have q := (XX.out.bel hu).cells; obtain ⟨q0, q1, q2, q3⟩ := q; go_simp)) ?_
  refine anyU_takeP (i := 5) (j := 15) (v := .agg #[.int .i64 1, .int .i64 x.no, .string ⟨#[]⟩, .slice none 0 0]) 19 [] rfl rfl (by kernel_rfl) (by kernel_rfl) (by kernel_rfl) (fun _ _ _ h => h) (by kernel_rfl) (Ext.stable _) hCD (yieldsU_call rfl 29 _ _ rfl #[.int .i64 x.no] (by simp [Act.eval, Act.put]) (fun u => by go_simp) (fun u hu => cnum_is x.no u)) ?_
  simp only [Act.put, List.setIfInBounds_toArray, List.set_cons_succ, List.set_cons_zero]
  refine anyU_takeP (i := 6) (j := 15) (v := .pointer (some ⟨xb, 2, none⟩)) 20 [] rfl rfl (by kernel_rfl) (by kernel_rfl) (by kernel_rfl) (fun _ _ _ h => h) (by kernel_rfl) (Ext.stable _) hCD (yieldsU_val rfl (fun u hu => by go_simp)) ?_
  refine anyU_takeP (i := 7) (j := 15) (v := .slice (some ⟨xb, 2, none⟩) 32 32) 21 [] rfl rfl (by kernel_rfl) (by kernel_rfl) (by kernel_rfl) (fun _ _ _ h => h) (by kernel_rfl) (Ext.stable _) hCD (yieldsU_val rfl (fun u hu => by go_simp)) ?_
  refine anyU_takeP (i := 8) (j := 15) (v := .agg #[.int .i64 2, .int .i64 0, .string s1, .slice none 0 0]) 22 [] rfl rfl (by kernel_rfl) (by kernel_rfl) (by kernel_rfl) (fun _ _ _ h => h) (by kernel_rfl) (Ext.stable _) hCD (yieldsU_call rfl 30 _ _ rfl #[.slice (some ⟨xb, 2, none⟩) 32 32] (by simp [Act.eval, Act.put]) (fun u => by go_simp) (fun u hu => ctxt_is (some ⟨xb, 2, none⟩) 32 32 x.prev s1 u (Lib.hid (.inl ⟨by rw [hpl.out], .inr ⟨xb, 2, rfl, (XX.out.bel hu).lt, (XX.out.bel hu).cells.2.2.1⟩⟩)) S1)) ?_
  simp only [Act.put, List.setIfInBounds_toArray, List.set_cons_succ, List.set_cons_zero]
  refine anyU_takeP (i := 9) (j := 15) (v := .pointer (some ⟨xb, 34, none⟩)) 23 [] rfl rfl (by kernel_rfl) (by kernel_rfl) (by kernel_rfl) (fun _ _ _ h => h) (by kernel_rfl) (Ext.stable _) hCD (yieldsU_val rfl (fun u hu => by go_simp)) ?_
  refine anyU_takeP (i := 10) (j := 15) (v := .slice x.p x.m x.c) 24 [] rfl rfl (by kernel_rfl) (by kernel_rfl) (by kernel_rfl) (fun _ _ _ h => h) (by kernel_rfl) (Ext.stable _) hCD (yieldsU_val rfl (fun u hu => by have q := (XX.out.bel hu).cells; obtain ⟨q0, q1, q2, q3⟩ := q; go_simp)) ?_
  refine anyU_takeP (i := 11) (j := 15) (v := .agg #[.int .i64 2, .int .i64 0, .string s2, .slice none 0 0]) 25 [] rfl rfl (by kernel_rfl) (by kernel_rfl) (by kernel_rfl) (fun _ _ _ h => h) (by kernel_rfl) (Ext.stable _) hCD (yieldsU_call rfl 30 _ _ rfl #[.slice x.p x.m x.c] (by simp [Act.eval, Act.put]) (fun u => by go_simp) (fun u hu => ctxt_is x.p x.m x.c x.bs s2 u (Lib.hid (SX.out.below hu)) S2)) ?_
  simp only [Act.put, List.setIfInBounds_toArray, List.set_cons_succ, List.set_cons_zero]
  refine anyU_one 12 3 _ rfl rfl (by kernel_rfl) ?_
  intro u1 hu
  go_wp2_with fail
  change ∃ C' : World → Prop, _ ∧ _ ∧ _ ∧ anyU _ _ _ _ _ _ 3 _ _ _
  have Z1 := Lib.hid (Blk.new u1 #[.int .i64 1, .int .i64 x.node, .string ⟨#[]⟩, .slice none 0 0, .int .i64 1, .int .i64 x.no, .string ⟨#[]⟩, .slice none 0 0, .int .i64 2, .int .i64 0, .string s1, .slice none 0 0, .int .i64 2, .int .i64 0, .string s2, .slice none 0 0] 54)
  have E1 := Lib.hid (Ext.trans hu (bel_alloc1 u1 (.cells #[.int .i64 1, .int .i64 x.node, .string ⟨#[]⟩, .slice none 0 0, .int .i64 1, .int .i64 x.no, .string ⟨#[]⟩, .slice none 0 0, .int .i64 2, .int .i64 0, .string s1, .slice none 0 0, .int .i64 2, .int .i64 0, .string s2, .slice none 0 0] 54)))
  generalize World.alloc u1 _ = u2 at Z1 E1 ⊢
  generalize u1.heap.size = bb at Z1 ⊢
  clear hu
  refine anchorF (fun z => Ext V z ∧ Blk z bb #[.int .i64 1, .int .i64 x.node, .string ⟨#[]⟩, .slice none 0 0, .int .i64 1, .int .i64 x.no, .string ⟨#[]⟩, .slice none 0 0, .int .i64 2, .int .i64 0, .string s1, .slice none 0 0, .int .i64 2, .int .i64 0, .string s2, .slice none 0 0] 54) (fun z hz => hz.1) ((Ext.stable V).and (fun y z h k => h.below k h.lt)) ⟨E1.out, Z1.out⟩ ?_
  (try simp only [Act.put])
  refine anyU_one 13 2 _ rfl rfl (by kernel_rfl) ?_
  intro u3 hu3
  have Z3 := Lib.hid hu3.2
  have E3 := Lib.hid hu3.1
  clear hu3
  go_wp2_with (go_at_call 28; refine (cenc_is (lkA x) bb 0 4 4 _ (Lib.hid rfl) (by omega) (Lib.hid hsm.out.ok) Z3.out.lt (Lib.hid (lk_atoms Z3.out S1.out S2.out)) (Lib.hid (by have := hsm.out.len; omega))).mono ?_; rintro e u4 ⟨v4, rfl, o4, hb⟩; have O4 := Lib.hid o4; have B4 := Lib.hid (Ext.trans E3.out hb); clear o4 hb)
  change ∃ C' : World → Prop, _ ∧ _ ∧ _ ∧ anyU _ _ _ _ _ _ 2 _ _ _
  obtain ⟨p4, c4, hv4, hz4⟩ := own8_tag O4.out
  subst v4
  have Z4 := Lib.hid hz4
  clear hz4 O4
  refine anchorF (fun z => Ext V z ∧ SrcW z p4 (lkT x).length c4 (lkT x)) (fun z hz => hz.1) ((Ext.stable V).and (fun y z h k => h.below k)) ⟨B4.out, Z4.out⟩ ?_
  (try simp only [Act.put])
  refine anyU_one 14 1 _ rfl rfl (by kernel_rfl) ?_
  intro u5 hu5
  have Z5 := Lib.hid hu5.2
  have E5 := Lib.hid hu5.1
  clear hu5
  go_wp2_with (go_at_call 19; refine (tagged_is _ tLink p4 _ c4 (lkT x) ds _ (by decide) Z5 (Lib.hid (lkT_rng hsm.out)) (by decide) (by have := lkT_len hsm.out; omega) (Lib.hid (hk.out.below (bel_trans B1.out E5.out))) HD).mono ?_; rintro e u6 ⟨rfl, hb⟩; have B6 := Lib.hid (Ext.trans E5.out hb); clear hb)
  change ∃ C' : World → Prop, _ ∧ _ ∧ _ ∧ anyU _ _ _ _ _ _ 1 _ _ _
  refine anchorF (Ext V) (fun z hz => hz) (Ext.stable V) B6.out ?_
  (try simp only [Act.put])
  refine anyU_tail 15 [] rfl rfl (by decide) (by kernel_rfl) ?_
  intro u7 hu7
  simp only [Act.put, List.filterMap_cons, List.filterMap_nil, List.getElem?_cons_succ, List.getElem?_cons_zero]
  have D7 := Lib.hid (D1.out.bel hu7)
  have B7 := Lib.hid (bel_trans B1.out hu7)
  clear hu7
  refine list_storeD rfl (.tmp 2) (.tmp 28) rfl w.heap.size rfl ds rfl ld.out (List.replicate 32 0) D7.out ?_
  intro w8 D8 k8
  have B8 := Lib.hid (B7.out.trans (k8.below (Nat.le_refl _)))
  have D8 := Lib.hid D8
  clear k8
  go_wp2_with fail
  refine bodyPost_ret (results_cell1 (a := ⟨w.heap.size, 0, none⟩) (v := .agg (bv ds).toArray) rfl _ rfl (load_dig D8.out)) rfl ⟨rfl, B8.out⟩
/-- lists of links that are few and short -/
structure Small (ls : List Lk) : Prop where
  n : ls.length ≤ 40
  d : ∀ x ∈ ls, x.bs.length ≤ 400
theorem Small.take {ls : List Lk} (h : Small ls) (i : Nat) : Small (ls.take i) := ⟨by have := h.n; rw [List.length_take]; omega, fun x hx => h.d x (List.mem_of_mem_take hx)⟩
theorem LksV.sm {w : World} {p : Option Addr} {n c : Nat} {ls : List Lk} (h : LksV w p n c ls) (hs : Small ls) {i : Nat} (hi : i < ls.length) : LkSm (ls.getD i lk0) := lkSm (h.ok _ (getD_memL hi)) (hs.d _ (getD_memL hi))
theorem chead_is (p : Option Addr) (n c : Nat) (ls : List Lk) (w : World) (hs : Hid (LksV w p n c ls)) (hk : Hid (KeysAt w)) (hsm : Hid (Small ls)) (ds : List Int) (hd : Hid (IsHead ls ds)) :
    Calls Tryd.prog 15 #[.slice p n c] w fun e w' => e = .returned (.agg (bv ds).toArray) ∧ Below w.heap.size w w' := by
  have hl := hs.out.len
  have hn := hsm.out.n
  cases n with
  | zero =>
    obtain rfl : ls = [] := List.eq_nil_of_length_eq_zero hl.symm
    exact chead_nil p c w hk ds hd
  | succ k => exact chead_link p (k + 1) c k ls w hs hk rfl (by omega) (Lib.hid (hs.out.sm hsm.out (by omega))) ds hd
end Go.Proofs.YtllcgehfmkmcdaaDoor
