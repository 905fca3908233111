/- The reference of layer 11: values, hashes, Sign, Verify. -/
import Derived.Test.YtjdkdhpippapmaaGreatDoorRefZC
namespace Go.Proofs.YtjdkdhpippapmaaGreatDoor
open Go.RowKit
set_option linter.unusedVariables false
set_option linter.unusedSimpArgs false

theorem renc2 (a : Int) (ha : 0 ≤ a ∧ a < 2147483579) (bs : List Int) (st : ByteArray) (w : World) (g : Nat) (hst : strB bs = st) (hs : Hid (txOk bs)) (hB : Hid (Blk w g #[.int .i64 1, .int .i64 a, .string ⟨#[]⟩, .slice none 0 0, .int .i64 2, .int .i64 0, .string st, .slice none 0 0] 53)) :
    Calls Tryz.prog 60 #[.agg #[.int .i64 3, .int .i64 0, .string ⟨#[]⟩, .slice (some ⟨g, 0, none⟩) 2 2]] w
      fun e w' => ∃ v', e = .returned (.tuple #[v', .int .i64 0]) ∧ Own8 w' w.heap.size v' (encL [.int a, .text bs]) ∧ Below w.heap.size w w' := by
  subst hst
  have hB := hB.out
  refine rEncode_list [.int a, .text bs] g 0 2 2 w (Lib.hid rfl) (by omega) (Lib.hid (ok2 ha hs.out)) hB.lt (Lib.hid ?_) (Lib.hid (by rw [lenA2]; have := hs.out.1; omega))
  intro k hk
  have hk' : k < 2 := hk
  rcases (by omega : k = 0 ∨ k = 1) with rfl | rfl
  · exact ⟨hB.cell 0, hB.cell 1, hB.cell 2, hB.cell 3⟩
  · exact ⟨hB.cell 4, hB.cell 5, hB.cell 6, hB.cell 7⟩
set_option maxRecDepth 100000 in
set_option maxHeartbeats 2000000 in
theorem rsign_no (x : Int) (p : Option Addr) (m c : Nat) (w : World) (hx : x < 1 ∨ 1073741789 ≤ x) : Calls Tryz.prog 64 #[.int .i64 x, .slice p m c] w fun e w' => e = .returned (.tuple #[.agg #[.int .i64 0, .int .i64 0], .int .i64 110]) ∧ Below w.heap.size w w' := by
  rcases hx with hx | hx
  · go_enter Tryz.func64, Tryz.ntmps64
    go_wp2_with fail
    refine bodyPost_ret (v := .tuple #[.agg #[.int .i64 0, .int .i64 0], .int .i64 110]) (by simp [results, Tryz.results64, go_sem]) rfl ⟨rfl, ?_⟩
    repeat refine Below.setCell ?_ (by simp) _
    exact bel_alloc1 w _
  · have hx1 : ¬ x < 1 := by omega
    go_enter Tryz.func64, Tryz.ntmps64
    go_wp2_with fail
    refine bodyPost_ret (v := .tuple #[.agg #[.int .i64 0, .int .i64 0], .int .i64 110]) (by simp [results, Tryz.results64, go_sem]) rfl ⟨rfl, ?_⟩
    repeat refine Below.setCell ?_ (by simp) _
    exact bel_alloc1 w _
set_option maxRecDepth 100000 in
set_option maxHeartbeats 4000000 in
theorem rsign_big (x : Int) (p : Option Addr) (m c : Nat) (bs : List Int) (w : World) (x0 : 1 ≤ x) (x1 : x < 1073741789) (hs : Hid (txOk bs)) (hz : Hid (SrcW w p m c bs)) (e s h0 pt ky : Int) (HH0 : Hid (IsHash tNonce (encL [.int x, .text bs]) h0)) (hz0 : (h0 == 0) = false) (k0 : 1 ≤ h0) (k1 : h0 < 1073741789) (e0 : 0 ≤ e) (e1 : e < 1073741789) (HPT : Hid (IsPw 4 h0 pt)) (HKY : Hid (IsPw 4 x ky)) (HPB : Hid (0 ≤ pt ∧ pt < 2147483579)) (HKB : Hid (0 ≤ ky ∧ ky < 2147483579)) (HCH : Hid (IsCh pt ky bs e)) (pr : Int) (p0 : 0 ≤ pr) (p1 : pr < 1073741789) (HPR : Hid (tmsQ e x = pr)) (HS : Hid (s = (h0 + pr) % 1073741789)) :
    Calls Tryz.prog 64 #[.int .i64 x, .slice p m c] w fun r w' => r = .returned (.tuple #[.agg #[.int .i64 e, .int .i64 s], .int .i64 0]) ∧ Below w.heap.size w w' := by
  have HX := Lib.hid (show 0 ≤ x ∧ x < 2147483579 by omega)
  obtain ⟨st, hst⟩ : ∃ st, strB bs = st := ⟨_, rfl⟩
  have HST := Lib.hid hst
  clear hst
  go_enter Tryz.func64, Tryz.ntmps64
  go_wp2_with fail
  refine wp_region_any (by kernel_rfl) ?_
  change wpAny _ _ _ _ _ _ _ (World.drew _)
  generalize hWD : World.drew _ = W
  have EW := Lib.hid (show Below w.heap.size w W by rw [← hWD]; exact (bel_alloc1 w _).drew)
  have VW := Lib.hid (show Blk W w.heap.size #[.int .i64 0, .int .i64 0] 25 by rw [← hWD]; exact Blk.new w _ _)
  clear hWD
  have hCD : ∀ u, Ext W u → Ext W u := fun u hu => hu
  have ZW := Lib.hid (hz.out.below EW.out)
  refine region_U (D := Ext W) (Ext W) [12] (Ext.refl W) ?_
  refine anyU_takeD (i := 0) (v := .int .i64 x) 22 rfl rfl (by kernel_rfl) (by kernel_rfl) (by kernel_rfl) (fun _ _ _ h => h) (by kernel_rfl) (Ext.stable _) hCD (yieldsU_val rfl (fun u hu => by rfl)) ?_
  refine anyU_takeD (i := 1) (v := .agg #[.int .i64 1, .int .i64 x, .string ⟨#[]⟩, .slice none 0 0]) 23 rfl rfl (by kernel_rfl) (by kernel_rfl) (by kernel_rfl) (fun _ _ _ h => h) (by kernel_rfl) (Ext.stable _) hCD (yieldsU_call rfl 87 _ _ rfl #[.int .i64 x] (by simp [Act.eval, Act.put]) (fun u => by go_simp) (fun u hu => rInt_any x u)) ?_
  simp only [Act.put, List.setIfInBounds_toArray, List.set_cons_succ, List.set_cons_zero]
  refine anyU_takeD (i := 2) (v := .slice p m c) 24 rfl rfl (by kernel_rfl) (by kernel_rfl) (by kernel_rfl) (fun _ _ _ h => h) (by kernel_rfl) (Ext.stable _) hCD (yieldsU_val rfl (fun u hu => by rfl)) ?_
  refine anyU_takeD (i := 3) (v := .string st) 25 rfl rfl (by kernel_rfl) (by kernel_rfl) (by kernel_rfl) (fun _ _ _ h => h) (by kernel_rfl) (Ext.stable _) hCD (yieldsU_val rfl (fun u hu => by have hc := conv_srcW (ZW.out.below hu); rw [HST.out] at hc; go_simp)) ?_
  refine anyU_takeD (i := 4) (v := .agg #[.int .i64 2, .int .i64 0, .string st, .slice none 0 0]) 26 rfl rfl (by kernel_rfl) (by kernel_rfl) (by kernel_rfl) (fun _ _ _ h => h) (by kernel_rfl) (Ext.stable _) hCD (yieldsU_call rfl 88 _ _ rfl #[.string st] (by simp [Act.eval, Act.put]) (fun u => by go_simp) (fun u hu => rText_any st u)) ?_
  simp only [Act.put, List.setIfInBounds_toArray, List.set_cons_succ, List.set_cons_zero]
  refine anyU_one 5 7 _ rfl rfl (by kernel_rfl) ?_
  intro u1 hu
  go_wp2_with fail
  change ∃ C' : World → Prop, _ ∧ _ ∧ _ ∧ anyU _ _ _ _ _ _ 7 _ _ _
  have Z1 := Lib.hid (Blk.new u1 #[.int .i64 1, .int .i64 x, .string ⟨#[]⟩, .slice none 0 0, .int .i64 2, .int .i64 0, .string st, .slice none 0 0] 53)
  have E1 := Lib.hid (Ext.trans hu (bel_alloc1 u1 (.cells #[.int .i64 1, .int .i64 x, .string ⟨#[]⟩, .slice none 0 0, .int .i64 2, .int .i64 0, .string st, .slice none 0 0] 53)))
  generalize World.alloc u1 _ = u2 at Z1 E1 ⊢
  generalize u1.heap.size = bb at Z1 ⊢
  clear hu
  refine anchorF (fun z => Ext W z ∧ Blk z bb #[.int .i64 1, .int .i64 x, .string ⟨#[]⟩, .slice none 0 0, .int .i64 2, .int .i64 0, .string st, .slice none 0 0] 53) (fun z hz => hz.1) ((Ext.stable W).and (fun z z' h k => h.below k h.lt)) ⟨E1.out, Z1.out⟩ ?_
  (try simp only [Act.put])
  refine anyU_one 6 6 _ rfl rfl (by kernel_rfl) ?_
  intro u3 hu3
  go_wp2_with fail
  refine (rList_any (some ⟨bb, 0, none⟩) 2 2 u3).mono ?_
  rintro q u4 ⟨rfl, hb⟩
  have X4 := Lib.hid (Ext.trans hu3.1 hb)
  have Z4 := Lib.hid (hu3.2.below hb hu3.2.lt)
  clear hb hu3
  go_wp2_with fail
  change ∃ C' : World → Prop, _ ∧ _ ∧ _ ∧ anyU _ _ _ _ _ _ 6 _ _ _
  refine anchorF (fun z => Ext W z ∧ Blk z bb #[.int .i64 1, .int .i64 x, .string ⟨#[]⟩, .slice none 0 0, .int .i64 2, .int .i64 0, .string st, .slice none 0 0] 53) (fun z hz => hz.1) ((Ext.stable W).and (fun z z' h k => h.below k h.lt)) ⟨X4.out, Z4.out⟩ ?_
  (try simp only [Act.put])
  refine anyU_one 7 5 _ rfl rfl (by kernel_rfl) ?_
  intro u5 hu5
  go_wp2_with fail
  refine (renc2 x HX.out bs st u5 bb HST.out hs (Lib.hid hu5.2)).mono ?_
  rintro q u6 ⟨v5, rfl, o5, hb⟩
  have X6 := Lib.hid (Ext.trans hu5.1 hb)
  have O6 := Lib.hid (own8_mono o5 hu5.1.size)
  clear o5 hb hu5
  go_wp2_with fail
  change ∃ C' : World → Prop, _ ∧ _ ∧ _ ∧ anyU _ _ _ _ _ _ 5 _ _ _
  have hST2 : Stable (fun z => Ext W z ∧ Own8 z W.heap.size v5 (encL [.int x, .text bs])) := ((Ext.stable W).and (fun z z' h k => own8_below h k))
  have hF2 : ∀ z, (fun z => Ext W z ∧ Own8 z W.heap.size v5 (encL [.int x, .text bs])) z → Ext W z := fun z hz => hz.1
  refine anchorF (fun z => Ext W z ∧ Own8 z W.heap.size v5 (encL [.int x, .text bs])) (fun z hz => hz.1) hST2 ⟨X6.out, O6.out⟩ ?_
  (try simp only [Act.put])
  refine anyU_takeD (i := 8) (v := .tuple #[v5, .int .i64 0]) 21 rfl rfl (by kernel_rfl) (by kernel_rfl) (by kernel_rfl) (fun _ _ _ h => h) (by kernel_rfl) hST2 hF2 (yieldsU_val rfl (fun u hu => by rfl)) ?_
  refine anyU_takeD (i := 9) (v := v5) 30 rfl rfl (by kernel_rfl) (by kernel_rfl) (by kernel_rfl) (fun _ _ _ h => h) (by kernel_rfl) hST2 hF2 (yieldsU_val rfl (fun u hu => by go_simp)) ?_
  refine anyU_takeD (i := 10) (v := .int .i64 0) 31 rfl rfl (by kernel_rfl) (by kernel_rfl) (by kernel_rfl) (fun _ _ _ h => h) (by kernel_rfl) hST2 hF2 (yieldsU_val rfl (fun u hu => by go_simp)) ?_
  simp only [Act.put, List.setIfInBounds_toArray, List.set_cons_succ, List.set_cons_zero]
  refine anyU_one 11 1 _ rfl rfl (by kernel_rfl) ?_
  intro u7 hu7
  go_wp2_with fail
  change ∃ C' : World → Prop, _ ∧ _ ∧ _ ∧ anyU _ _ _ _ _ _ 1 _ _ _
  refine anchorF (fun z => Ext W z ∧ Own8 z W.heap.size v5 (encL [.int x, .text bs])) (fun z hz => hz.1) hST2 hu7 ?_
  (try simp only [Act.put])
  refine anyU_tail 12 [] rfl rfl (by decide) (by kernel_rfl) ?_
  intro u8 hu8
  simp only [Act.put, List.filterMap_cons, List.filterMap_nil, List.getElem?_cons_succ, List.getElem?_cons_zero]
  have X8 := Lib.hid hu8.1
  have O8 := Lib.hid hu8.2
  clear hu8 hST2 hF2
  have B8 := Lib.hid (bel_trans EW.out X8.out)
  have V8 := Lib.hid (VW.out.below X8.out VW.out.lt)
  go_wp2_with (first
    | (go_at_call 89; refine (rhash_is _ tNonce _ _ v5 u8 strNonce O8 (Lib.hid (ok2 HX.out hs.out)) (by simp) (by rw [lenA2]; have := hs.out.1; omega) (by decide) h0 HH0).mono ?_; rintro q u9 ⟨rfl, hb⟩; have B9 := Lib.hid (bel_trans B8.out hb); have V9 := Lib.hid (V8.out.below hb V8.out.lt); clear hb)
    | (go_at_call 90; ((with_reducible refine (rpow_is 4 x ky _ HKY (Lib.hid pe4)).mono ?_); rintro q w' ⟨rfl, rfl⟩))
    | (go_at_call 90; ((with_reducible refine (rpow_is 4 h0 pt _ HPT (Lib.hid pe4)).mono ?_); rintro q w' ⟨rfl, rfl⟩))
    | (go_at_call 54; refine (rchallenge_any pt ky p m c bs u9 HPB.out HKB.out hs (Lib.hid (hz.out.below B9.out)) e HCH).mono ?_; rintro q u10 ⟨rfl, hb⟩; have B10 := Lib.hid (bel_trans B9.out hb); have V10 := V9.out.below hb V9.out.lt; have g0 := V10.cell 0; have g1 := V10.cell 1; have f0 := V10.frozen 0; have f1 := V10.frozen 1; have V10H := Lib.hid V10; clear hb V10)
    | (go_at_call 95; refine (rtimes_any e x _).mono ?_; rintro q w' ⟨rfl, rfl⟩; rw [HPR.out]))
  try rw [← HS.out]
  have VV : Blk _ w.heap.size #[.int .i64 e, .int .i64 s] 25 := (V10H.out.set 0 (.int .i64 e)).set 1 (.int .i64 s)
  have c0 := VV.cell 0
  have c1 := VV.cell 1
  refine bodyPost_ret (v := .tuple #[.agg #[.int .i64 e, .int .i64 s], .int .i64 0]) (by simp only [results, Tryz.results64]; simp [go_sem, c0, c1]) rfl ⟨rfl, ?_⟩
  repeat refine Below.setCell ?_ (by simp) _
  exact B10.out
set_option maxRecDepth 100000 in
set_option maxHeartbeats 4000000 in
theorem rsign_one (x : Int) (p : Option Addr) (m c : Nat) (bs : List Int) (w : World) (x0 : 1 ≤ x) (x1 : x < 1073741789) (hs : Hid (txOk bs)) (hz : Hid (SrcW w p m c bs)) (e s pt ky : Int) (HH0 : Hid (IsHash tNonce (encL [.int x, .text bs]) 0))  (e0 : 0 ≤ e) (e1 : e < 1073741789) (HPT : Hid (IsPw 4 1 pt)) (HKY : Hid (IsPw 4 x ky)) (HPB : Hid (0 ≤ pt ∧ pt < 2147483579)) (HKB : Hid (0 ≤ ky ∧ ky < 2147483579)) (HCH : Hid (IsCh pt ky bs e)) (pr : Int) (p0 : 0 ≤ pr) (p1 : pr < 1073741789) (HPR : Hid (tmsQ e x = pr)) (HS : Hid (s = (1 + pr) % 1073741789)) :
    Calls Tryz.prog 64 #[.int .i64 x, .slice p m c] w fun r w' => r = .returned (.tuple #[.agg #[.int .i64 e, .int .i64 s], .int .i64 0]) ∧ Below w.heap.size w w' := by
  have HX := Lib.hid (show 0 ≤ x ∧ x < 2147483579 by omega)
  obtain ⟨st, hst⟩ : ∃ st, strB bs = st := ⟨_, rfl⟩
  have HST := Lib.hid hst
  clear hst
  go_enter Tryz.func64, Tryz.ntmps64
  go_wp2_with fail
  refine wp_region_any (by kernel_rfl) ?_
  change wpAny _ _ _ _ _ _ _ (World.drew _)
  generalize hWD : World.drew _ = W
  have EW := Lib.hid (show Below w.heap.size w W by rw [← hWD]; exact (bel_alloc1 w _).drew)
  have VW := Lib.hid (show Blk W w.heap.size #[.int .i64 0, .int .i64 0] 25 by rw [← hWD]; exact Blk.new w _ _)
  clear hWD
  have hCD : ∀ u, Ext W u → Ext W u := fun u hu => hu
  have ZW := Lib.hid (hz.out.below EW.out)
  refine region_U (D := Ext W) (Ext W) [12] (Ext.refl W) ?_
  refine anyU_takeD (i := 0) (v := .int .i64 x) 22 rfl rfl (by kernel_rfl) (by kernel_rfl) (by kernel_rfl) (fun _ _ _ h => h) (by kernel_rfl) (Ext.stable _) hCD (yieldsU_val rfl (fun u hu => by rfl)) ?_
  refine anyU_takeD (i := 1) (v := .agg #[.int .i64 1, .int .i64 x, .string ⟨#[]⟩, .slice none 0 0]) 23 rfl rfl (by kernel_rfl) (by kernel_rfl) (by kernel_rfl) (fun _ _ _ h => h) (by kernel_rfl) (Ext.stable _) hCD (yieldsU_call rfl 87 _ _ rfl #[.int .i64 x] (by simp [Act.eval, Act.put]) (fun u => by go_simp) (fun u hu => rInt_any x u)) ?_
  simp only [Act.put, List.setIfInBounds_toArray, List.set_cons_succ, List.set_cons_zero]
  refine anyU_takeD (i := 2) (v := .slice p m c) 24 rfl rfl (by kernel_rfl) (by kernel_rfl) (by kernel_rfl) (fun _ _ _ h => h) (by kernel_rfl) (Ext.stable _) hCD (yieldsU_val rfl (fun u hu => by rfl)) ?_
  refine anyU_takeD (i := 3) (v := .string st) 25 rfl rfl (by kernel_rfl) (by kernel_rfl) (by kernel_rfl) (fun _ _ _ h => h) (by kernel_rfl) (Ext.stable _) hCD (yieldsU_val rfl (fun u hu => by have hc := conv_srcW (ZW.out.below hu); rw [HST.out] at hc; go_simp)) ?_
  refine anyU_takeD (i := 4) (v := .agg #[.int .i64 2, .int .i64 0, .string st, .slice none 0 0]) 26 rfl rfl (by kernel_rfl) (by kernel_rfl) (by kernel_rfl) (fun _ _ _ h => h) (by kernel_rfl) (Ext.stable _) hCD (yieldsU_call rfl 88 _ _ rfl #[.string st] (by simp [Act.eval, Act.put]) (fun u => by go_simp) (fun u hu => rText_any st u)) ?_
  simp only [Act.put, List.setIfInBounds_toArray, List.set_cons_succ, List.set_cons_zero]
  refine anyU_one 5 7 _ rfl rfl (by kernel_rfl) ?_
  intro u1 hu
  go_wp2_with fail
  change ∃ C' : World → Prop, _ ∧ _ ∧ _ ∧ anyU _ _ _ _ _ _ 7 _ _ _
  have Z1 := Lib.hid (Blk.new u1 #[.int .i64 1, .int .i64 x, .string ⟨#[]⟩, .slice none 0 0, .int .i64 2, .int .i64 0, .string st, .slice none 0 0] 53)
  have E1 := Lib.hid (Ext.trans hu (bel_alloc1 u1 (.cells #[.int .i64 1, .int .i64 x, .string ⟨#[]⟩, .slice none 0 0, .int .i64 2, .int .i64 0, .string st, .slice none 0 0] 53)))
  generalize World.alloc u1 _ = u2 at Z1 E1 ⊢
  generalize u1.heap.size = bb at Z1 ⊢
  clear hu
  refine anchorF (fun z => Ext W z ∧ Blk z bb #[.int .i64 1, .int .i64 x, .string ⟨#[]⟩, .slice none 0 0, .int .i64 2, .int .i64 0, .string st, .slice none 0 0] 53) (fun z hz => hz.1) ((Ext.stable W).and (fun z z' h k => h.below k h.lt)) ⟨E1.out, Z1.out⟩ ?_
  (try simp only [Act.put])
  refine anyU_one 6 6 _ rfl rfl (by kernel_rfl) ?_
  intro u3 hu3
  go_wp2_with fail
  refine (rList_any (some ⟨bb, 0, none⟩) 2 2 u3).mono ?_
  rintro q u4 ⟨rfl, hb⟩
  have X4 := Lib.hid (Ext.trans hu3.1 hb)
  have Z4 := Lib.hid (hu3.2.below hb hu3.2.lt)
  clear hb hu3
  go_wp2_with fail
  change ∃ C' : World → Prop, _ ∧ _ ∧ _ ∧ anyU _ _ _ _ _ _ 6 _ _ _
  refine anchorF (fun z => Ext W z ∧ Blk z bb #[.int .i64 1, .int .i64 x, .string ⟨#[]⟩, .slice none 0 0, .int .i64 2, .int .i64 0, .string st, .slice none 0 0] 53) (fun z hz => hz.1) ((Ext.stable W).and (fun z z' h k => h.below k h.lt)) ⟨X4.out, Z4.out⟩ ?_
  (try simp only [Act.put])
  refine anyU_one 7 5 _ rfl rfl (by kernel_rfl) ?_
  intro u5 hu5
  go_wp2_with fail
  refine (renc2 x HX.out bs st u5 bb HST.out hs (Lib.hid hu5.2)).mono ?_
  rintro q u6 ⟨v5, rfl, o5, hb⟩
  have X6 := Lib.hid (Ext.trans hu5.1 hb)
  have O6 := Lib.hid (own8_mono o5 hu5.1.size)
  clear o5 hb hu5
  go_wp2_with fail
  change ∃ C' : World → Prop, _ ∧ _ ∧ _ ∧ anyU _ _ _ _ _ _ 5 _ _ _
  have hST2 : Stable (fun z => Ext W z ∧ Own8 z W.heap.size v5 (encL [.int x, .text bs])) := ((Ext.stable W).and (fun z z' h k => own8_below h k))
  have hF2 : ∀ z, (fun z => Ext W z ∧ Own8 z W.heap.size v5 (encL [.int x, .text bs])) z → Ext W z := fun z hz => hz.1
  refine anchorF (fun z => Ext W z ∧ Own8 z W.heap.size v5 (encL [.int x, .text bs])) (fun z hz => hz.1) hST2 ⟨X6.out, O6.out⟩ ?_
  (try simp only [Act.put])
  refine anyU_takeD (i := 8) (v := .tuple #[v5, .int .i64 0]) 21 rfl rfl (by kernel_rfl) (by kernel_rfl) (by kernel_rfl) (fun _ _ _ h => h) (by kernel_rfl) hST2 hF2 (yieldsU_val rfl (fun u hu => by rfl)) ?_
  refine anyU_takeD (i := 9) (v := v5) 30 rfl rfl (by kernel_rfl) (by kernel_rfl) (by kernel_rfl) (fun _ _ _ h => h) (by kernel_rfl) hST2 hF2 (yieldsU_val rfl (fun u hu => by go_simp)) ?_
  refine anyU_takeD (i := 10) (v := .int .i64 0) 31 rfl rfl (by kernel_rfl) (by kernel_rfl) (by kernel_rfl) (fun _ _ _ h => h) (by kernel_rfl) hST2 hF2 (yieldsU_val rfl (fun u hu => by go_simp)) ?_
  simp only [Act.put, List.setIfInBounds_toArray, List.set_cons_succ, List.set_cons_zero]
  refine anyU_one 11 1 _ rfl rfl (by kernel_rfl) ?_
  intro u7 hu7
  go_wp2_with fail
  change ∃ C' : World → Prop, _ ∧ _ ∧ _ ∧ anyU _ _ _ _ _ _ 1 _ _ _
  refine anchorF (fun z => Ext W z ∧ Own8 z W.heap.size v5 (encL [.int x, .text bs])) (fun z hz => hz.1) hST2 hu7 ?_
  (try simp only [Act.put])
  refine anyU_tail 12 [] rfl rfl (by decide) (by kernel_rfl) ?_
  intro u8 hu8
  simp only [Act.put, List.filterMap_cons, List.filterMap_nil, List.getElem?_cons_succ, List.getElem?_cons_zero]
  have X8 := Lib.hid hu8.1
  have O8 := Lib.hid hu8.2
  clear hu8 hST2 hF2
  have B8 := Lib.hid (bel_trans EW.out X8.out)
  have V8 := Lib.hid (VW.out.below X8.out VW.out.lt)
  go_wp2_with (first
    | (go_at_call 89; refine (rhash_is _ tNonce _ _ v5 u8 strNonce O8 (Lib.hid (ok2 HX.out hs.out)) (by simp) (by rw [lenA2]; have := hs.out.1; omega) (by decide) 0 HH0).mono ?_; rintro q u9 ⟨rfl, hb⟩; have B9 := Lib.hid (bel_trans B8.out hb); have V9 := Lib.hid (V8.out.below hb V8.out.lt); clear hb)
    | (go_at_call 90; ((with_reducible refine (rpow_is 4 x ky _ HKY (Lib.hid pe4)).mono ?_); rintro q w' ⟨rfl, rfl⟩))
    | (go_at_call 90; ((with_reducible refine (rpow_is 4 1 pt _ HPT (Lib.hid pe4)).mono ?_); rintro q w' ⟨rfl, rfl⟩))
    | (go_at_call 54; refine (rchallenge_any pt ky p m c bs u9 HPB.out HKB.out hs (Lib.hid (hz.out.below B9.out)) e HCH).mono ?_; rintro q u10 ⟨rfl, hb⟩; have B10 := Lib.hid (bel_trans B9.out hb); have V10 := V9.out.below hb V9.out.lt; have g0 := V10.cell 0; have g1 := V10.cell 1; have f0 := V10.frozen 0; have f1 := V10.frozen 1; have V10H := Lib.hid V10; clear hb V10)
    | (go_at_call 95; refine (rtimes_any e x _).mono ?_; rintro q w' ⟨rfl, rfl⟩; rw [HPR.out]))
  try rw [← HS.out]
  have VV : Blk _ w.heap.size #[.int .i64 e, .int .i64 s] 25 := (V10H.out.set 0 (.int .i64 e)).set 1 (.int .i64 s)
  have c0 := VV.cell 0
  have c1 := VV.cell 1
  refine bodyPost_ret (v := .tuple #[.agg #[.int .i64 e, .int .i64 s], .int .i64 0]) (by simp only [results, Tryz.results64]; simp [go_sem, c0, c1]) rfl ⟨rfl, ?_⟩
  repeat refine Below.setCell ?_ (by simp) _
  exact B10.out
theorem tms_in {e x : Int} (e0 : 0 ≤ e) (e1 : e < 1073741789) (x0 : 0 ≤ x) (x1 : x < 1073741789) : tmsQ e x = e * x % 1073741789 := by
  unfold tmsQ
  rw [show modQ e = e by unfold modQ; omega, show modQ x = x by unfold modQ; omega]
theorem rsign_yes (x : Int) (p : Option Addr) (m c : Nat) (bs : List Int) (w : World) (x0 : 1 ≤ x) (x1 : x < 1073741789) (hs : Hid (txOk bs)) (hz : Hid (SrcW w p m c bs)) (e s : Int) (hsig : Hid (IsSig x bs e s)) :
    Calls Tryz.prog 64 #[.int .i64 x, .slice p m c] w fun r w' => r = .returned (.tuple #[.agg #[.int .i64 e, .int .i64 s], .int .i64 0]) ∧ Below w.heap.size w w' := by
  obtain ⟨k, hk1, hk2, hk3⟩ := hsig.out
  have kr := hk1.rng
  have er := hk2.rng
  obtain ⟨h0, hh0, hkm⟩ := hk1
  have hr0 := hh0.rng
  obtain ⟨pt, hpt⟩ := isPw 4 k
  obtain ⟨ky, hky⟩ := isPw 4 x
  have hpb := elB_iff (powZ_el elB_4 k)
  have hkb := elB_iff (powZ_el elB_4 x)
  rw [hpt.eq, hky.eq] at hk2
  rw [hpt.eq] at hpb
  rw [hky.eq] at hkb
  have ht := tms_in er.1 er.2 (show 0 ≤ x by omega) x1
  have hprb : 0 ≤ e * x % 1073741789 ∧ e * x % 1073741789 < 1073741789 := by omega
  by_cases hc : 1 ≤ h0
  · obtain rfl : k = h0 := by omega
    exact rsign_big x p m c bs w x0 x1 hs hz e s k pt ky (Lib.hid hh0) (by simp; omega) kr.1 kr.2 er.1 er.2 (Lib.hid hpt) (Lib.hid hky) (Lib.hid ⟨by omega, by omega⟩) (Lib.hid ⟨by omega, by omega⟩) (Lib.hid hk2) _ hprb.1 hprb.2 (Lib.hid ht) (Lib.hid hk3)
  · obtain rfl : h0 = 0 := by omega
    obtain rfl : k = 1 := by omega
    exact rsign_one x p m c bs w x0 x1 hs hz e s pt ky (Lib.hid hh0) er.1 er.2 (Lib.hid hpt) (Lib.hid hky) (Lib.hid ⟨by omega, by omega⟩) (Lib.hid ⟨by omega, by omega⟩) (Lib.hid hk2) _ hprb.1 hprb.2 (Lib.hid ht) (Lib.hid hk3)
end Go.Proofs.YtjdkdhpippapmaaGreatDoor
