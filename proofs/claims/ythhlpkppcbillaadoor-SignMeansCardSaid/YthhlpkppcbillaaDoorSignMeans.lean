/- A signature is right exactly if the key is an element, its numbers are in range, and E is the hash of its point, the key and the text. No condition. -/
import Derived.Test.YthhlpkppcbillaaDoorSigEnc
import Derived.Test.YthhlpkppcbillaaDoorSignRight
namespace Go.Proofs.YthhlpkppcbillaaDoor
open Go.ChangeShapes Go.WideShapes Go.ChangeAt Go.RowKit Go.WideElems Go.Shelf
set_option linter.unusedVariables false
set_option linter.unusedSimpArgs false

set_option maxRecDepth 100000 in
set_option maxHeartbeats 4000000 in
theorem signMeans_bad1 (key e s : Int) (p : Option Addr) (m c : Nat) (bs : List Int) (w : World) (hz : Hid (SrcW w p m c bs)) (hr : Hid (∀ z ∈ bs, 0 ≤ z ∧ z ≤ 255)) (hk : Hid (KeysAt w)) (hm : m ≤ 600) (hn : Hid ((elB key && inQ e && inQ s) = false)) (h1 : e < 0) :
    Calls Tryd.prog 5 #[.int .i64 key, .slice p m c, .agg #[.int .i64 e, .int .i64 s]] w fun e w' => e = .returned (.bool true) ∧ Below w.heap.size w w' := by
  have V1 := Lib.hid (Blk.new w #[.int .i64 e, .int .i64 s] 24)
  have B1 := Lib.hid (bel_alloc1 w (.cells #[.int .i64 e, .int .i64 s] 24))
  go_enter Tryd.func5, Tryd.ntmps5
  go_wp2_with (first
    | (go_at_call 11; refine (sane_any _ (Lib.hid (hk.out.below B1.out))).mono ?_; rintro r w1 ⟨rfl, hb⟩; have B2 := Lib.hid (bel_trans B1.out hb); have V2 := V1.out.below hb V1.out.lt; have c0 := V2.cell 0; have c1 := V2.cell 1; clear hb)
    | (go_at_call 14; refine (verify_no key e s p m c w1 hn).mono ?_; rintro r w2 ⟨rfl, hb⟩; have B3 := Lib.hid (bel_trans B2.out hb); have V3 := V2.below hb V2.lt; replace c0 := V3.cell 0; replace c1 := V3.cell 1; clear hb)
    | (go_at_call 17; refine (valid_any _ _).mono ?_; rintro r w3 ⟨rfl, rfl⟩))
  go_ret
  exact ⟨rfl, B3.out⟩
set_option maxRecDepth 100000 in
set_option maxHeartbeats 4000000 in
theorem signMeans_bad2 (key e s : Int) (p : Option Addr) (m c : Nat) (bs : List Int) (w : World) (hz : Hid (SrcW w p m c bs)) (hr : Hid (∀ z ∈ bs, 0 ≤ z ∧ z ≤ 255)) (hk : Hid (KeysAt w)) (hm : m ≤ 600) (hn : Hid ((elB key && inQ e && inQ s) = false)) (h1 : ¬ e < 0) (h2 : 1073741789 ≤ e) :
    Calls Tryd.prog 5 #[.int .i64 key, .slice p m c, .agg #[.int .i64 e, .int .i64 s]] w fun e w' => e = .returned (.bool true) ∧ Below w.heap.size w w' := by
  have V1 := Lib.hid (Blk.new w #[.int .i64 e, .int .i64 s] 24)
  have B1 := Lib.hid (bel_alloc1 w (.cells #[.int .i64 e, .int .i64 s] 24))
  go_enter Tryd.func5, Tryd.ntmps5
  go_wp2_with (first
    | (go_at_call 11; refine (sane_any _ (Lib.hid (hk.out.below B1.out))).mono ?_; rintro r w1 ⟨rfl, hb⟩; have B2 := Lib.hid (bel_trans B1.out hb); have V2 := V1.out.below hb V1.out.lt; have c0 := V2.cell 0; have c1 := V2.cell 1; clear hb)
    | (go_at_call 14; refine (verify_no key e s p m c w1 hn).mono ?_; rintro r w2 ⟨rfl, hb⟩; have B3 := Lib.hid (bel_trans B2.out hb); have V3 := V2.below hb V2.lt; replace c0 := V3.cell 0; replace c1 := V3.cell 1; clear hb)
    | (go_at_call 17; refine (valid_any _ _).mono ?_; rintro r w3 ⟨rfl, rfl⟩))
  go_ret
  exact ⟨rfl, B3.out⟩
set_option maxRecDepth 100000 in
set_option maxHeartbeats 4000000 in
theorem signMeans_bad3 (key e s : Int) (p : Option Addr) (m c : Nat) (bs : List Int) (w : World) (hz : Hid (SrcW w p m c bs)) (hr : Hid (∀ z ∈ bs, 0 ≤ z ∧ z ≤ 255)) (hk : Hid (KeysAt w)) (hm : m ≤ 600) (hn : Hid ((elB key && inQ e && inQ s) = false)) (h1 : ¬ e < 0) (h2 : ¬ 1073741789 ≤ e) (h3 : s < 0) :
    Calls Tryd.prog 5 #[.int .i64 key, .slice p m c, .agg #[.int .i64 e, .int .i64 s]] w fun e w' => e = .returned (.bool true) ∧ Below w.heap.size w w' := by
  have V1 := Lib.hid (Blk.new w #[.int .i64 e, .int .i64 s] 24)
  have B1 := Lib.hid (bel_alloc1 w (.cells #[.int .i64 e, .int .i64 s] 24))
  go_enter Tryd.func5, Tryd.ntmps5
  go_wp2_with (first
    | (go_at_call 11; refine (sane_any _ (Lib.hid (hk.out.below B1.out))).mono ?_; rintro r w1 ⟨rfl, hb⟩; have B2 := Lib.hid (bel_trans B1.out hb); have V2 := V1.out.below hb V1.out.lt; have c0 := V2.cell 0; have c1 := V2.cell 1; clear hb)
    | (go_at_call 14; refine (verify_no key e s p m c w1 hn).mono ?_; rintro r w2 ⟨rfl, hb⟩; have B3 := Lib.hid (bel_trans B2.out hb); have V3 := V2.below hb V2.lt; replace c0 := V3.cell 0; replace c1 := V3.cell 1; clear hb)
    | (go_at_call 17; refine (valid_any _ _).mono ?_; rintro r w3 ⟨rfl, rfl⟩))
  go_ret
  exact ⟨rfl, B3.out⟩
set_option maxRecDepth 100000 in
set_option maxHeartbeats 4000000 in
theorem signMeans_bad4 (key e s : Int) (p : Option Addr) (m c : Nat) (bs : List Int) (w : World) (hz : Hid (SrcW w p m c bs)) (hr : Hid (∀ z ∈ bs, 0 ≤ z ∧ z ≤ 255)) (hk : Hid (KeysAt w)) (hm : m ≤ 600) (hn : Hid ((elB key && inQ e && inQ s) = false)) (h1 : ¬ e < 0) (h2 : ¬ 1073741789 ≤ e) (h3 : ¬ s < 0) (h4 : 1073741789 ≤ s) :
    Calls Tryd.prog 5 #[.int .i64 key, .slice p m c, .agg #[.int .i64 e, .int .i64 s]] w fun e w' => e = .returned (.bool true) ∧ Below w.heap.size w w' := by
  have V1 := Lib.hid (Blk.new w #[.int .i64 e, .int .i64 s] 24)
  have B1 := Lib.hid (bel_alloc1 w (.cells #[.int .i64 e, .int .i64 s] 24))
  go_enter Tryd.func5, Tryd.ntmps5
  go_wp2_with (first
    | (go_at_call 11; refine (sane_any _ (Lib.hid (hk.out.below B1.out))).mono ?_; rintro r w1 ⟨rfl, hb⟩; have B2 := Lib.hid (bel_trans B1.out hb); have V2 := V1.out.below hb V1.out.lt; have c0 := V2.cell 0; have c1 := V2.cell 1; clear hb)
    | (go_at_call 14; refine (verify_no key e s p m c w1 hn).mono ?_; rintro r w2 ⟨rfl, hb⟩; have B3 := Lib.hid (bel_trans B2.out hb); have V3 := V2.below hb V2.lt; replace c0 := V3.cell 0; replace c1 := V3.cell 1; clear hb)
    | (go_at_call 17; refine (valid_any _ _).mono ?_; rintro r w3 ⟨rfl, rfl⟩))
  go_ret
  exact ⟨rfl, B3.out⟩
set_option maxRecDepth 100000 in
set_option maxHeartbeats 4000000 in
theorem signMeans_bad5 (key e s : Int) (p : Option Addr) (m c : Nat) (bs : List Int) (w : World) (hz : Hid (SrcW w p m c bs)) (hr : Hid (∀ z ∈ bs, 0 ≤ z ∧ z ≤ 255)) (hk : Hid (KeysAt w)) (hm : m ≤ 600) (hn : Hid ((elB key && inQ e && inQ s) = false)) (h1 : ¬ e < 0) (h2 : ¬ 1073741789 ≤ e) (h3 : ¬ s < 0) (h4 : ¬ 1073741789 ≤ s) (h5 : Hid (elB key = false)) :
    Calls Tryd.prog 5 #[.int .i64 key, .slice p m c, .agg #[.int .i64 e, .int .i64 s]] w fun e w' => e = .returned (.bool true) ∧ Below w.heap.size w w' := by
  have V1 := Lib.hid (Blk.new w #[.int .i64 e, .int .i64 s] 24)
  have B1 := Lib.hid (bel_alloc1 w (.cells #[.int .i64 e, .int .i64 s] 24))
  go_enter Tryd.func5, Tryd.ntmps5
  go_wp2_with (first
    | (go_at_call 11; refine (sane_any _ (Lib.hid (hk.out.below B1.out))).mono ?_; rintro r w1 ⟨rfl, hb⟩; have B2 := Lib.hid (bel_trans B1.out hb); have V2 := V1.out.below hb V1.out.lt; have c0 := V2.cell 0; have c1 := V2.cell 1; clear hb)
    | (go_at_call 14; refine (verify_no key e s p m c w1 hn).mono ?_; rintro r w2 ⟨rfl, hb⟩; have B3 := Lib.hid (bel_trans B2.out hb); have V3 := V2.below hb V2.lt; replace c0 := V3.cell 0; replace c1 := V3.cell 1; clear hb)
    | (go_at_call 17; refine (valid_any _ _).mono ?_; rintro r w3 ⟨rfl, rfl⟩; rw [h5.out]))
  go_ret
  exact ⟨rfl, B3.out⟩
set_option maxRecDepth 100000 in
set_option maxHeartbeats 4000000 in
theorem signMeans_good (key e s h : Int) (v : Bool) (p : Option Addr) (m c : Nat) (bs : List Int) (w : World) (hz : Hid (SrcW w p m c bs)) (hr : Hid (∀ z ∈ bs, 0 ≤ z ∧ z ≤ 255)) (hk : Hid (KeysAt w)) (hm : m ≤ 600)
    (hkey : Hid (elB key = true)) (e0 : 0 ≤ e) (e1 : e < 1073741789) (s0 : 0 ≤ s) (s1 : s < 1073741789) (pt : Int) (hpt : Hid (IsPt key e s pt)) (hh : Hid (IsCh pt key bs h)) (hv : Hid (IsVer key bs e s v)) (hev : (e == h) = v) :
    Calls Tryd.prog 5 #[.int .i64 key, .slice p m c, .agg #[.int .i64 e, .int .i64 s]] w fun e w' => e = .returned (.bool true) ∧ Below w.heap.size w w' := by
  have HT := Lib.hid (tx_of hz.out hr.out hm)
  have V1 := Lib.hid (Blk.new w #[.int .i64 e, .int .i64 s] 24)
  have B1 := Lib.hid (bel_alloc1 w (.cells #[.int .i64 e, .int .i64 s] 24))
  obtain ⟨st, hst⟩ : ∃ st, strB bs = st := ⟨_, rfl⟩
  have HST := Lib.hid hst
  clear hst
  have ke := elB_iff hkey.out
  have HKB := Lib.hid (show 0 ≤ key ∧ key < 2147483579 by omega)
  have pe := ptZ_el (e := e) (s := s) hkey.out
  rw [hpt.out.eq] at pe
  have pe2 := elB_iff pe
  have HPB := Lib.hid (show 0 ≤ pt ∧ pt < 2147483579 by omega)
  clear ke pe pe2
  have HEV := Lib.hid hev
  clear hev
  go_enter Tryd.func5, Tryd.ntmps5
  go_wp2_with (first
    | (go_at_call 11; refine (sane_any _ (Lib.hid (hk.out.below B1.out))).mono ?_; rintro r w1 ⟨rfl, hb⟩; have B2 := Lib.hid (bel_trans B1.out hb); have V2 := V1.out.below hb V1.out.lt; have c0 := V2.cell 0; have c1 := V2.cell 1; clear hb)
    | (go_at_call 14; refine (verify_is key e s p m c bs w1 HT (Lib.hid (hz.out.below B2.out)) (Lib.hid (hk.out.below B2.out)) v hv).mono ?_; rintro r w2 ⟨rfl, hb⟩; have B3 := Lib.hid (bel_trans B2.out hb); have V3 := V2.below hb V2.lt; replace c0 := V3.cell 0; replace c1 := V3.cell 1; clear hb)
    | (go_at_call 17; refine (valid_any _ _).mono ?_; rintro r w3 ⟨rfl, rfl⟩; rw [hkey.out])
    | (go_at_call 18; refine (lpoint_is key e s pt _ hkey e0 e1 hpt).mono ?_; rintro r w4 ⟨rfl, hb⟩; have B4 := Lib.hid (bel_trans B3.out hb); have V4 := Lib.hid (V3.below hb V3.lt); clear c0 c1 hb; have hconv := conv_srcW (hz.out.below B4.out); rw [HST.out] at hconv)
    | (go_at_call 19; refine (enc3 pt key bs st w4 HST.out HPB.out HKB.out HT _ rfl).mono ?_; rintro r w5 ⟨v5, rfl, o5, hb⟩; have B5 := Lib.hid (bel_trans B4.out hb); have V5 := Lib.hid (V4.out.below hb V4.out.lt); have O5 := Lib.hid o5; clear hconv hb o5))
  refine wp_region_any (by kernel_rfl) ?_
  change wpAny _ _ _ _ _ _ _ (World.drew _)
  generalize hWD : World.drew w5 = W
  have VW := Lib.hid (show Blk W w.heap.size #[.int .i64 e, .int .i64 s] 24 by rw [← hWD]; exact V5.out)
  have BW := Lib.hid (show Below w.heap.size w W by rw [← hWD]; exact B5.out.drew)
  have OW := Lib.hid (show Own8 W w4.heap.size v5 (encL [.int pt, .int key, .text bs]) by rw [← hWD]; exact O5.out)
  clear hWD V5 B5 O5
  have hCD : ∀ u, Ext W u → Ext W u := fun u hu => hu
  refine region_U (D := Ext W) (Ext W) [14] (Ext.refl W) ?_
  refine anyU_takeD (i := 0) (v := .bool true) 65 rfl rfl (by kernel_rfl) (by kernel_rfl) (by kernel_rfl) (fun _ _ _ h => h) (by kernel_rfl) (Ext.stable _) hCD (yieldsU_val rfl (fun u hu => by rfl)) ?_
  refine anyU_takeD (i := 1) (v := .bool true) 66 rfl rfl (by kernel_rfl) (by kernel_rfl) (by kernel_rfl) (fun _ _ _ h => h) (by kernel_rfl) (Ext.stable _) hCD (yieldsU_val rfl (fun u hu => by rfl)) ?_
  refine anyU_takeD (i := 2) (v := .int .i64 0) 67 rfl rfl (by kernel_rfl) (by kernel_rfl) (by kernel_rfl) (fun _ _ _ h => h) (by kernel_rfl) (Ext.stable _) hCD (yieldsU_val rfl (fun u hu => by rfl)) ?_
  refine anyU_takeD (i := 3) (v := .bool true) 68 rfl rfl (by kernel_rfl) (by kernel_rfl) (by kernel_rfl) (fun _ _ _ h => h) (by kernel_rfl) (Ext.stable _) hCD (yieldsU_val rfl (fun u hu => by go_simp)) ?_
  simp only [Act.put, List.setIfInBounds_toArray, List.set_cons_succ, List.set_cons_zero]
  refine anyU_takeD (i := 4) (v := .bool true) 69 rfl rfl (by kernel_rfl) (by kernel_rfl) (by kernel_rfl) (fun _ _ _ h => h) (by kernel_rfl) (Ext.stable _) hCD (yieldsU_val rfl (fun u hu => by go_simp)) ?_
  refine anyU_takeD (i := 5) (v := .bool true) 70 rfl rfl (by kernel_rfl) (by kernel_rfl) (by kernel_rfl) (fun _ _ _ h => h) (by kernel_rfl) (Ext.stable _) hCD (yieldsU_val rfl (fun u hu => by rfl)) ?_
  refine anyU_takeD (i := 6) (v := .bool v) 71 rfl rfl (by kernel_rfl) (by kernel_rfl) (by kernel_rfl) (fun _ _ _ h => h) (by kernel_rfl) (Ext.stable _) hCD (yieldsU_val rfl (fun u hu => by rfl)) ?_
  refine anyU_takeD (i := 7) (v := .pointer (some ⟨w.heap.size, 0, none⟩)) 72 rfl rfl (by kernel_rfl) (by kernel_rfl) (by kernel_rfl) (fun _ _ _ h => h) (by kernel_rfl) (Ext.stable _) hCD (yieldsU_val rfl (fun u hu => by go_simp)) ?_
  simp only [Act.put, List.setIfInBounds_toArray, List.set_cons_succ, List.set_cons_zero]
  refine anyU_takeD (i := 8) (v := .int .i64 e) 73 rfl rfl (by kernel_rfl) (by kernel_rfl) (by kernel_rfl) (fun _ _ _ h => h) (by kernel_rfl) (Ext.stable _) hCD (yieldsU_val rfl (fun u hu => by have c := (VW.out.below hu VW.out.lt).cell 0; go_simp)) ?_
  refine anyU_takeD (i := 9) (v := v5) 74 rfl rfl (by kernel_rfl) (by kernel_rfl) (by kernel_rfl) (fun _ _ _ h => h) (by kernel_rfl) (Ext.stable _) hCD (yieldsU_val rfl (fun u hu => by rfl)) ?_
  simp only [Act.put, List.setIfInBounds_toArray, List.set_cons_succ, List.set_cons_zero]
  refine anyU_takeD (i := 10) (v := .int .i64 h) 75 rfl rfl (by kernel_rfl) (by kernel_rfl) (by kernel_rfl) (fun _ _ _ h => h) (by kernel_rfl) (Ext.stable _) hCD (yieldsU_call rfl 20 _ _ rfl #[.string ⟨#[115, 105, 103, 110]⟩, v5] (by simp [Act.eval, Act.put]) (fun u => by go_simp) (fun u hu => hash_own _ tSign _ w4.heap.size v5 u strSign (Lib.hid (own8_below OW.out hu)) (Lib.hid (ok3 HPB.out HKB.out HT.out)) (by simp) (by rw [lenA3]; have := HT.out.1; omega) (by decide) (Lib.hid ((hk.out.below BW.out).below hu)) h hh)) ?_
  simp only [Act.put, List.setIfInBounds_toArray, List.set_cons_succ, List.set_cons_zero]
  refine anyU_takeD (i := 11) (v := .bool v) 76 rfl rfl (by kernel_rfl) (by kernel_rfl) (by kernel_rfl) (fun _ _ _ h => h) (by kernel_rfl) (Ext.stable _) hCD (yieldsU_val rfl (fun u hu => by go_simp; rw [HEV.out])) ?_
  refine anyU_takeD (i := 12) (v := .bool true) 77 rfl rfl (by kernel_rfl) (by kernel_rfl) (by kernel_rfl) (fun _ _ _ h => h) (by kernel_rfl) (Ext.stable _) hCD (yieldsU_val rfl (fun u hu => by go_simp)) ?_
  simp only [Act.put, List.setIfInBounds_toArray, List.set_cons_succ, List.set_cons_zero]
  refine anyU_takeD (i := 13) (v := .bool true) 78 rfl rfl (by kernel_rfl) (by kernel_rfl) (by kernel_rfl) (fun _ _ _ h => h) (by kernel_rfl) (Ext.stable _) hCD (yieldsU_val rfl (fun u hu => by go_simp)) ?_
  refine anyU_tail 14 [] rfl rfl (by decide) (by kernel_rfl) ?_
  intro u hu
  simp only [Act.put, List.filterMap_cons, List.filterMap_nil, List.getElem?_cons_succ, List.getElem?_cons_zero]
  have BU := Lib.hid (bel_trans BW.out hu)
  clear hu
  go_wp2_with fail
  go_ret
  exact ⟨rfl, BU.out⟩
theorem signMeans_walk (key e s : Int) (p : Option Addr) (m c : Nat) (bs : List Int) (w : World) (hz : Hid (SrcW w p m c bs)) (hr : Hid (∀ z ∈ bs, 0 ≤ z ∧ z ≤ 255)) (hk : Hid (KeysAt w)) :
    Calls Tryd.prog 5 #[.int .i64 key, .slice p m c, .agg #[.int .i64 e, .int .i64 s]] w fun e w' => e = .returned (.bool true) ∧ Below w.heap.size w w' := by
  by_cases hm : m ≤ 600
  case neg =>
    have B1 := Lib.hid (bel_alloc1 w (.cells #[.int .i64 e, .int .i64 s] 24))
    go_enter Tryd.func5, Tryd.ntmps5
    go_wp2_with (go_at_call 11; refine (sane_any _ (Lib.hid (hk.out.below B1.out))).mono ?_; rintro r w1 ⟨rfl, hb⟩)
    go_ret
    exact ⟨rfl, bel_trans B1.out hb⟩
  by_cases h1 : e < 0
  · exact signMeans_bad1 key e s p m c bs w hz hr hk hm (Lib.hid (by have : inQ e = false := by unfold inQ; simp; omega
                                                                     rw [this]; simp)) h1
  by_cases h2 : 1073741789 ≤ e
  · exact signMeans_bad2 key e s p m c bs w hz hr hk hm (Lib.hid (by have : inQ e = false := by unfold inQ; simp; omega
                                                                     rw [this]; simp)) h1 h2
  by_cases h3 : s < 0
  · exact signMeans_bad3 key e s p m c bs w hz hr hk hm (Lib.hid (by have : inQ s = false := by unfold inQ; simp; omega
                                                                     rw [this]; simp)) h1 h2 h3
  by_cases h4 : 1073741789 ≤ s
  · exact signMeans_bad4 key e s p m c bs w hz hr hk hm (Lib.hid (by have : inQ s = false := by unfold inQ; simp; omega
                                                                     rw [this]; simp)) h1 h2 h3 h4
  cases h5 : elB key with
  | false => exact signMeans_bad5 key e s p m c bs w hz hr hk hm (Lib.hid (by rw [h5]; rfl)) h1 h2 h3 h4 (Lib.hid h5)
  | true =>
    obtain ⟨pt, hpt⟩ := isPt key e s
    obtain ⟨h, hh⟩ := isCh pt key bs
    refine signMeans_good key e s h (e == h) p m c bs w hz hr hk hm (Lib.hid h5) (by omega) (by omega) (by omega) (by omega) pt (Lib.hid hpt) (Lib.hid hh) (Lib.hid ⟨h, by rw [hpt.eq]; exact hh, ?_⟩) rfl
    rw [h5, inQ_iff.2 ⟨by omega, by omega⟩, inQ_iff.2 ⟨by omega, by omega⟩, Bool.true_and, Bool.true_and]
    by_cases q : e = h <;> simp [q]

namespace signMeans
theorem readable : ∀ t ∈ Tryd.f5.params.toList, Tryd.prog.readableRec t = true ∧ t < Tryd.prog.types.size := by
  rw [Tryd.params5]
  intro t ht
  simp only [List.mem_cons, List.not_mem_nil, or_false] at ht
  rcases ht with rfl | rfl | rfl
  all_goals exact ⟨by kernel_rfl, by decide +kernel⟩

set_option maxRecDepth 100000 in
theorem lifted (os : Os) (started : os.Started) (H : Type) (enc : TypeId × Value → H) :
    ReturnsInHanded {} Tryd.checked os 5 .any (fun w args => (Rows.signMeansSpec.pre enc Tryd.prog Tryd.f5 [] false w args ∧ laidMetH Tryd.prog laidK w) ∧ sizedMet enc Tryd.prog Tryd.f5 (OpenSpec.ofChange Rows.signMeansSpec) false w args)
      (Rows.signMeansSpec.post enc Tryd.prog Tryd.f5 false true false false) := by
  refine returnsInHanded_of_change_and (C := Tryd.checked) (X := fun w _ => laidMetH Tryd.prog laidK w) (fun _ _ _ hh h => h.of_heap hh) own_knob started (by kernel_rfl) Tryd.func5
    (ChangeSpec.witness_shaped (enc := enc) (C := Tryd.checked) (os := os) (X := fun w _ => laidMetH Tryd.prog laidK w) false (World.doorLaid Tryd.prog 400 os) #[.int .i64 0, .slice none 0 0, .agg #[.int .i64 0, .int .i64 0]] 8 rfl (World.shaped_of_RefB (by kernel_rfl) (by kernel_rfl)) (by kernel_rfl) (by kernel_rfl) (by kernel_rfl) (door_met os _)) ?_
  intro W base args ds gs before hval0 hW _ _ hL _
  have hval : ∀ (j : Nat) t v, Tryd.f5.params[j]? = some t → args[j]? = some v → Value.okWide Tryd.prog W .any base t v := hval0
  have hW' := hW
  obtain ⟨p, q, hA0, hV, rfl, hfz, hnd⟩ := hW
  have hA : DataW.TrodAll enc Tryd.prog W 0 (fun _ => true) true Tryd.f5.params.toList args.toList ds p := hA0
  rw [Tryd.params5] at hA hval
  obtain ⟨v0, vs0, d0, ds0, p0, q0, hargs, rfl, rfl, h0, r0⟩ := trodAll_cons hA
  obtain ⟨v1, vs1, d1, ds1, p1, q1, rfl, rfl, rfl, h1, r1⟩ := trodAll_cons r0
  obtain ⟨v2, vs2, d2, ds2, p2, q2, rfl, rfl, rfl, h2, r2⟩ := trodAll_cons r1
  obtain ⟨rfl, rfl, rfl⟩ := trodAll_nil r2
  obtain rfl : args = #[v0, v1, v2] := by cases args; simp_all
  obtain ⟨rfl, rfl⟩ := trodVars_none hV
  obtain ⟨a0, rfl, rfl, rfl, w0⟩ := open_int Tryd.underlying3 (hval 0 3 v0 rfl rfl) h0
  obtain ⟨s1, n1, c1, z1, rfl, w1, x1, y1, u1⟩ := open_src Tryd.underlying22 Tryd.underlying5 (by kernel_rfl) (hval 1 22 v1 rfl rfl) h1
  obtain ⟨e2, t2, rfl, w2, x2⟩ := open_sig (hval 2 24 v2 rfl rfl) h2
  have hK := of_laid hL
  clear hA0 hval0
  refine (signMeans_walk a0 e2 t2 s1 n1 c1 z1 W (Lib.hid w1) (Lib.hid x1) (Lib.hid hK)).mono fun e W' ⟨he, hb⟩ => ?_
  subst he
  exact ⟨_, rfl, law_post laid_out readable rfl rfl Tryd.underlying4 hW' rfl rfl rfl hb⟩

theorem over : Rows.signMeansRow.holds Tryd.pinned (OpenSpec.ofChange Rows.signMeansSpec) :=
  OpenClaim.holds_of_wide 5 Tryd.f5 rfl rfl rfl rfl rfl rfl rfl ⟨rfl, rfl, rfl, rfl, rfl⟩ rfl rfl rfl rfl rfl (by kernel_rfl) Tryd.func5 (by kernel_rfl)
    (of_decide_eq_true (by kernel_rfl)) (by unfold Func.isWrapper; first | (rw [if_pos (by decide +kernel)]; kernel_rfl) | (rw [if_neg (by decide +kernel)]; exact ⟨rfl, rfl⟩))
    (fun os started H enc _ => lifted os started H enc)

/-- the statement: the tied card -/
theorem proved : Rows.SignMeansCardSaid :=
  Claim7.holds_tied_plain_at .later [] [.data] true (true, "bc6094e853e3747432043714df9a4ae338abb82d89132539a305f2be281f9fc0") true
    over (fun _ h => by cases h) (by kernel_rfl) (fun _ h => by cases h) signMeans_row_tie rfl ⟨rfl, rfl⟩ (by kernel_rfl) rfl
    (fun f fn hf hfn => by
      obtain rfl : f = 5 := Option.some.inj ((show Tryd.prog.funcNamed "franking/frankinglaw11.SignMeans" = some 5 by kernel_rfl).symm.trans hf) |>.symm
      obtain rfl : fn = Tryd.f5 := (Option.some.inj (Tryd.func5.symm.trans hfn)).symm
      exact ⟨by kernel_rfl, fun j t ht => by
        rw [Tryd.params5] at ht
        have hm : t ∈ [3, 22, 24] := by simpa using Array.mem_of_getElem? ht
        have hall : ([3, 22, 24].all fun u => !Tryd.prog.wantsStandIn u) = true := by kernel_rfl
        exact (show Tryd.prog.wantsStandIn t = false by simpa using List.all_eq_true.1 hall t hm)⟩)
    (by kernel_rfl)
end signMeans
end Go.Proofs.YthhlpkppcbillaaDoor
