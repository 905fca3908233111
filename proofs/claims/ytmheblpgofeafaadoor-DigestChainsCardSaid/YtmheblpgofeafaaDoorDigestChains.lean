/- For every beginning and list the chain is that of the specification at each element, and the hash under a tag of the chain before it and the element. No condition. -/
import Derived.Test.YtmheblpgofeafaaDoorDigSane
import Derived.Test.YtmheblpgofeafaaDoorDigSt
import Derived.Test.YtmheblpgofeafaaDoorRefNode
import Derived.Test.YtmheblpgofeafaaDoorDigCard2
namespace Go.Proofs.YtmheblpgofeafaaDoor
open Go.ChangeShapes Go.WideShapes Go.ChangeAt Go.RowKit Go.WideElems
set_option linter.unusedVariables false
set_option linter.unusedSimpArgs false

theorem take_dg (bs : List Int) : ∀ (n i : Nat), i < n → ((dgs bs n).drop (32 * i)).take 32 = dgOf bs i
  | 0, i, h => by omega
  | n + 1, i, h => by
    have hl := dgs_len bs n
    rcases (by omega : i = n ∨ i < n) with rfl | h1
    · rw [dgs, ← hl, List.drop_left, List.take_of_length_le (by rw [dgOf_len]; omega)]
    · rw [dgs, List.drop_append_of_le_length (by omega), List.take_append_of_le_length (by rw [List.length_drop]; omega)]
      exact take_dg bs n i h1
set_option maxRecDepth 100000 in
set_option maxHeartbeats 8000000 in
theorem digestChains_walk (fs : List Int) (p : Option Addr) (m cap : Nat) (bs : List Int) (w : World) (hfl : Hid (fs.length = 32)) (hfr : Hid (∀ z ∈ fs, 0 ≤ z ∧ z ≤ 255)) (hz : Hid (SrcW w p m cap bs)) (hr : Hid (∀ z ∈ bs, 0 ≤ z ∧ z ≤ 255)) (hm : m ≤ 9223372036854775807) (hk : Hid (KeysAt w)) :
    Calls Tryd.prog 10 #[.agg (bv fs).toArray, .slice p m cap] w fun e w' => e = .returned (.bool true) ∧ Below w.heap.size w w' := by
  go_enter Tryd.func10, Tryd.ntmps10
  go_wp2_with fail
  generalize hW : World.alloc _ _ = W0
  have F0 := Lib.hid (show Dg W0 w.heap.size fs by rw [← hW]; exact Dg.box w hfl.out)
  have B0 := Lib.hid (show Below w.heap.size w W0 by rw [← hW]; exact bel_alloc1 w _)
  clear hW
  obtain ⟨fb, hfb⟩ : ∃ b, w.heap.size = b := ⟨_, rfl⟩
  have hF : w.heap.size ≤ fb := by omega
  have B0' : Hid (Below w.heap.size w W0) := B0
  rw [hfb] at F0 ⊢
  clear hfb B0
  refine (dsane_any W0 (Lib.hid (hk.out.below B0'.out))).mono ?_; rintro e w1 ⟨rfl, hb⟩
  have F1 := Lib.hid (F0.out.bel hb)
  have B1 := Lib.hid (B0'.out.trans (hb.mono B0'.out.size)); clear hb F0 B0'
  go_upto_region 3 with fail
  refine wp_region_any (by kernel_rfl) ?_
  change wpAny _ _ _ _ _ _ _ (World.drew _)
  generalize hWD : w1.drew = WD
  have F2 := Lib.hid (show Dg WD fb fs by rw [← hWD]; exact F1.out)
  have B2 := Lib.hid (show Below w.heap.size w WD by rw [← hWD]; exact B1.out.drew)
  clear hWD F1 B1
  refine region_C (fun u => Dg u fb fs) [5] ?_
  refine anyC_take (i := 0) (v := .agg (bv fs).toArray) rfl (by kernel_rfl) (by kernel_rfl) (by kernel_rfl) (fun _ _ _ h => h) (by kernel_rfl) F2.out (yields_loadD rfl _ rfl fb rfl fs hfl.out (fun _ h => h)) ?_
  refine anyC_take (i := 1) (v := .agg (bv fs).toArray) rfl (by kernel_rfl) (by kernel_rfl) (by kernel_rfl) (fun _ _ _ h => h) (by kernel_rfl) F2.out (yields_loadD rfl _ rfl fb rfl fs hfl.out (fun _ h => h)) ?_
  refine anyC_two 2 3 3 _ _ rfl rfl rfl rfl (by kernel_rfl) ?r1 ?r2
  case r1 =>
    simp only [Act.put]
    go_wp2_with fail
    change _ ∧ anyC _ _ _ _ _ _ 3 _ _ _
    refine ⟨F2.out.alloc _, ?_⟩
    refine anyC_one 3 2 _ rfl rfl (by kernel_rfl) ?_
    go_wp2_with fail
    change _ ∧ anyC _ _ _ _ _ _ 2 _ _ _
    refine ⟨(F2.out.alloc _).alloc _, ?_⟩
    generalize hW2 : World.alloc _ _ = W2
    have E3 := Lib.hid (show Dg W2 (WD.heap.size) (List.replicate 32 0) by rw [← hW2]; exact ((Dg.new WD).alloc _))
    have V3 := Lib.hid (show Dg W2 (WD.heap.size + 1) (List.replicate 32 0) by rw [← hW2]; exact (by have := Dg.new (WD.alloc (.cells #[.int .u8 0, .int .u8 0, .int .u8 0, .int .u8 0, .int .u8 0, .int .u8 0, .int .u8 0, .int .u8 0, .int .u8 0, .int .u8 0, .int .u8 0, .int .u8 0, .int .u8 0, .int .u8 0, .int .u8 0, .int .u8 0, .int .u8 0, .int .u8 0, .int .u8 0, .int .u8 0, .int .u8 0, .int .u8 0, .int .u8 0, .int .u8 0, .int .u8 0, .int .u8 0, .int .u8 0, .int .u8 0, .int .u8 0, .int .u8 0, .int .u8 0, .int .u8 0] 26)); rw [alloc_sz] at this; exact this))
    have F3 := Lib.hid (show Dg W2 fb fs by rw [← hW2]; exact (F2.out.alloc _).alloc _)
    have B3 := Lib.hid (show Below w.heap.size w W2 by rw [← hW2]; exact (B2.out.alloc B2.out.size _).alloc (by have := B2.out.size; simp; omega) _)
    have lF := F2.out.lt
    have lB := B2.out.size
    clear hW2 F2 B2
    obtain ⟨hb, hhb⟩ : ∃ b, WD.heap.size = b := ⟨_, rfl⟩
    rw [hhb] at E3 V3 lF lB ⊢
    clear hhb
    refine anyC_one 4 1 _ rfl rfl (by kernel_rfl) ?_
    refine list_storeD rfl (.tmp 5) (.tmp 12) rfl (hb) rfl fs rfl hfl.out _ E3.out ?_
    intro u3 e3 k3
    have E4 := Lib.hid e3
    have V4 := Lib.hid (V3.out.wrote k3 (by omega))
    have F4 := Lib.hid (F3.out.wrote k3 (by omega))
    have B4 := Lib.hid (B3.out.trans (k3.below (by omega)))
    clear e3 k3 E3 V3 F3 B3
    change _ ∧ anyC _ _ _ _ _ _ 1 _ _ _
    refine ⟨F4.out, ?_⟩
    refine anyC_tail 5 [] rfl rfl (by decide) (by kernel_rfl) ?_
    simp only [Act.put, List.filterMap_cons, List.filterMap_nil, List.getElem?_cons_succ, List.getElem?_cons_zero]
    refine list_storeD rfl (.tmp 6) (.tmp 13) rfl (hb + 1) rfl fs rfl hfl.out _ V4.out ?_
    intro u4 v4 k4
    have E5 := Lib.hid (E4.out.wrote k4 (by omega))
    have V5 := Lib.hid v4
    have B5 := Lib.hid (B4.out.trans (k4.below (by omega)))
    clear v4 k4 E4 V4 F4 B4
    obtain ⟨eb, heb⟩ : ∃ b, hb = b := ⟨_, rfl⟩
    obtain ⟨vb, hvb⟩ : ∃ b, hb + 1 = b := ⟨_, rfl⟩
    have hne : eb ≠ vb := by omega
    have hE : w.heap.size ≤ eb := by omega
    have hV : w.heap.size ≤ vb := by omega
    rw [hvb] at V5 ⊢
    rw [heb] at E5 ⊢
    clear heb hvb lF lB
    go_wp2_with fail
    refine (digestsOf_any p m cap bs u4 (Lib.hid (hz.out.below B5.out)) hr hm).mono ?_
    rintro e w5 ⟨lb, lcap, rfl, hl1, hl2, hl3, hl4, hl5, hb5⟩
    have E6 := Lib.hid (E5.out.bel hb5)
    have V6 := Lib.hid (V5.out.bel hb5)
    have B6 := Lib.hid (B5.out.trans (hb5.mono B5.out.size))
    have hLr := Lib.hid (dgs_rng bs (min m 24) (by omega))
    have hLl := Lib.hid (dgs_len bs (min m 24))
    have hLB := Lib.hid hl5
    have hn24 : min m 24 ≤ 24 := by omega
    obtain ⟨n, hn⟩ : ∃ n, min m 24 = n := ⟨_, rfl⟩
    rw [hn] at hLr hLl hLB hn24 hl3 ⊢
    have hml : maxLen ≤ 9223372036854775807 := by decide
    have heL : eb ≠ lb := by have := E5.out.lt; omega
    have hvL : vb ≠ lb := by have := V5.out.lt; omega
    have hlw : w.heap.size ≤ lb := by have := B5.out.size; omega
    clear hl5 hb5 E5 V5 B5 hn hl1
    go_wp2_with fail
    go_loopw [17] (fun i wr => ∃ (k : Nat) (cs : List Int), k ≤ n ∧ i = .int .i64 k ∧ Hid (Dg wr eb cs) ∧ Hid (Dg wr vb cs) ∧ Hid (∀ z ∈ cs, 0 ≤ z ∧ z ≤ 255) ∧ Hid (Below w.heap.size w wr) ∧ Hid (BytesAt wr lb 0 (dgs bs n)) ∧ lb < wr.heap.size) (fun i _ => n - (intOf i).toNat)
    case atStart => exact ⟨0, fs, by omega, rfl, E6, V6, hfr, B6, hLB, hl2⟩
    case round =>
      obtain ⟨k, cs, hkn, rfl, RE, RV, RR, RB, RL, hlt⟩ := hrel
      clear E6 V6 B6 hLB hl2
      by_cases hlt2 : k < n
      · have hL32 : ((dgs bs n).drop (32 * k)).take 32 = dgOf bs k := take_dg bs n k hlt2
        have hDk : Hid (BytesAt wr lb (k * 32) (dgOf bs k)) := Lib.hid (by have := (RL.out.drop (32 * k)).take 32; rw [hL32, Nat.zero_add, Nat.mul_comm] at this; exact this)
        have hDr : Hid (∀ z ∈ dgOf bs k, 0 ≤ z ∧ z ≤ 255) := Lib.hid (dgOf_rng bs k (by omega))
        obtain ⟨dd, hdd⟩ : ∃ dd, dgOf bs k = dd := ⟨_, rfl⟩
        have hDl : dd.length = 32 := by rw [← hdd]; rfl
        rw [hdd] at hDk hDr
        clear hdd hL32
        have HDL := Lib.hid hDl
        obtain ⟨ns, hns⟩ := isTag_ex (strL ⟨#[99, 104, 97, 105, 110]⟩) (cs ++ dd)
        have HNS := Lib.hid hns
        have LNS := Lib.hid hns.len
        have RNS := Lib.hid hns.rng
        have EQ := eqDig_same ns hns.len
        obtain ⟨ts, hts, hss⟩ := hns
        have HTS := Lib.hid hts
        have HSS := Lib.hid hss
        clear hts hss hDl
        have le := RE.out.lt
        have lv := RV.out.lt
        have lw := RB.out.size
        go_wp2_with (first
          | (refine list_loadM (by rfl) (.tmp 19) rfl lb (k * 32) rfl dd hDk.out HDL.out ?_)
          | (refine list_storeD rfl (.tmp 8) (.tmp 20) rfl wr.heap.size rfl dd rfl HDL.out _ (Dg.new wr) ?_))
        intro w6 d6 k6
        have K6 : Below wr.heap.size wr w6 := (bel_alloc1 wr _).trans (k6.below (Nat.le_refl _))
        have D6 := Lib.hid d6
        have E6 := Lib.hid (RE.out.bel K6)
        have V6 := Lib.hid (RV.out.bel K6)
        have B6 := Lib.hid (RB.out.trans (K6.mono lw))
        have L6 := Lib.hid (RL.out.below K6 hlt)
        have z6 : wr.heap.size < w6.heap.size := d6.lt
        clear K6 d6 k6 RE RV RB RL hDk
        obtain ⟨d8, hd8⟩ : ∃ b, wr.heap.size = b := ⟨_, rfl⟩
        rw [hd8] at D6 le lv lw z6 hlt ⊢
        clear hd8
        go_wp2_with (first
          | (refine list_loadD (by rfl) (.tmp 5) rfl eb rfl cs E6.out ?_)
          | (refine list_storeD rfl (.tmp 9) (.tmp 21) rfl w6.heap.size rfl cs rfl E6.out.2 _ (Dg.new w6) ?_))
        intro w7 d7 k7
        have K7 : Below w6.heap.size w6 w7 := (bel_alloc1 w6 _).trans (k7.below (Nat.le_refl _))
        have N7 := Lib.hid d7
        have D7 := Lib.hid (D6.out.bel K7)
        have E7 := Lib.hid (E6.out.bel K7)
        have V7 := Lib.hid (V6.out.bel K7)
        have B7 := Lib.hid (B6.out.trans (K7.mono (by omega)))
        have L7 := Lib.hid (L6.out.below K7 (by omega))
        have z7 : w6.heap.size < w7.heap.size := d7.lt
        clear K7 d7 k7 D6 E6 V6 B6 L6
        obtain ⟨d9, hd9⟩ : ∃ b, w6.heap.size = b := ⟨_, rfl⟩
        rw [hd9] at N7 z6 z7 ⊢
        clear hd9
        go_upto_region 8 with fail
        refine wp_region_any (by kernel_rfl) ?_
        change wpAny _ _ _ _ _ _ _ (World.drew _)
        generalize hWD : w7.drew = WE
        have N8 := Lib.hid (show Dg WE d9 cs by rw [← hWD]; exact N7.out)
        have D8 := Lib.hid (show Dg WE d8 dd by rw [← hWD]; exact D7.out)
        have E8 := Lib.hid (show Dg WE eb cs by rw [← hWD]; exact E7.out)
        have V8 := Lib.hid (show Dg WE vb cs by rw [← hWD]; exact V7.out)
        have B8 := Lib.hid (show Below w.heap.size w WE by rw [← hWD]; exact B7.out.drew)
        have L8 := Lib.hid (show BytesAt WE lb 0 (dgs bs n) by rw [← hWD]; exact L7.out)
        have z8 : w7.heap.size = WE.heap.size := by rw [← hWD]; rfl
        clear hWD N7 D7 E7 V7 B7 L7
        refine region_C (fun u => Dg u eb cs ∧ Dg u vb cs ∧ Dg u d8 dd) [6] ?_
        refine anyC_take (i := 0) (v := .agg (bv cs).toArray) rfl (by kernel_rfl) (by kernel_rfl) (by kernel_rfl) (fun _ _ _ h => h) (by kernel_rfl) ⟨E8.out, V8.out, D8.out⟩ (yields_loadD rfl _ rfl eb rfl cs E8.out.2 (fun _ h => h.1)) ?_
        refine anyC_take (i := 1) (v := .agg (bv dd).toArray) rfl (by kernel_rfl) (by kernel_rfl) (by kernel_rfl) (fun _ _ _ h => h) (by kernel_rfl) ⟨E8.out, V8.out, D8.out⟩ (yields_loadD rfl _ rfl d8 rfl dd D8.out.2 (fun _ h => h.2.2)) ?_
        refine anyC_take (i := 3) (v := .agg (bv cs).toArray) rfl (by kernel_rfl) (by kernel_rfl) (by kernel_rfl) (fun _ _ _ h => h) (by kernel_rfl) ⟨E8.out, V8.out, D8.out⟩ (yields_loadD rfl _ rfl vb rfl cs V8.out.2 (fun _ h => h.2.1)) ?_
        refine anyC_take (i := 4) (v := .agg (bv dd).toArray) rfl (by kernel_rfl) (by kernel_rfl) (by kernel_rfl) (fun _ _ _ h => h) (by kernel_rfl) ⟨E8.out, V8.out, D8.out⟩ (yields_loadD rfl _ rfl d8 rfl dd D8.out.2 (fun _ h => h.2.2)) ?_
        refine anyC_one 2 3 _ rfl rfl (by kernel_rfl) ?_
        (try simp only [Act.put])
        go_wp2_with fail
        refine (chain_any cs dd ns _ (Lib.hid E8.out.2) (Lib.hid D8.out.2) RR hDr (Lib.hid (hk.out.below B8.out)) HNS).mono ?_
        rintro e W9 ⟨rfl, hb_⟩
        have N9 := Lib.hid (N8.out.bel hb_)
        have D9 := Lib.hid (D8.out.bel hb_)
        have E9 := Lib.hid (E8.out.bel hb_)
        have V9 := Lib.hid (V8.out.bel hb_)
        have B9 := Lib.hid (B8.out.trans (hb_.mono B8.out.size))
        have L9 := Lib.hid (L8.out.below hb_ (by omega))
        have z9 := hb_.size
        clear hb_ N8 D8 E8 V8 B8 L8
        go_wp2_with fail
        change _ ∧ anyC _ _ _ _ _ _ 3 _ _ _
        refine ⟨⟨E9.out, V9.out, D9.out⟩, ?_⟩
        refine anyC_one 5 2 _ rfl rfl (by kernel_rfl) ?_
        (try simp only [Act.put])
        go_wp2_with fail
        refine (rchain_any cs dd ns _ (Lib.hid E9.out.2) (Lib.hid D9.out.2) RR hDr HNS).mono ?_
        rintro e W10 ⟨rfl, hb_⟩
        have N10 := Lib.hid (N9.out.bel hb_)
        have D10 := Lib.hid (D9.out.bel hb_)
        have E10 := Lib.hid (E9.out.bel hb_)
        have V10 := Lib.hid (V9.out.bel hb_)
        have B10 := Lib.hid (B9.out.trans (hb_.mono B9.out.size))
        have L10 := Lib.hid (L9.out.below hb_ (by omega))
        have z10 := hb_.size
        clear hb_ N9 D9 E9 V9 B9 L9
        go_wp2_with fail
        change _ ∧ anyC _ _ _ _ _ _ 2 _ _ _
        refine ⟨⟨E10.out, V10.out, D10.out⟩, ?_⟩
        refine anyC_tail 6 [7] rfl rfl (by decide) (by kernel_rfl) ?_
        simp only [Act.put, List.filterMap_cons, List.filterMap_nil, List.getElem?_cons_succ, List.getElem?_cons_zero]
        refine list_storeD rfl (.tmp 5) (.tmp 24) rfl eb rfl ns rfl LNS.out _ E10.out ?_
        intro W11 e11 k11
        refine list_storeD rfl (.tmp 6) (.tmp 27) rfl vb rfl ns rfl LNS.out _ (V10.out.wrote k11 (Ne.symm hne)) ?_
        intro W12 v12 k12
        have N12 := Lib.hid ((N10.out.wrote k11 (by omega)).wrote k12 (by omega))
        have D12 := Lib.hid ((D10.out.wrote k11 (by omega)).wrote k12 (by omega))
        have E12 := Lib.hid (e11.wrote k12 hne)
        have V12 := Lib.hid v12
        have B12 := Lib.hid ((B10.out.trans (k11.below hE)).trans (k12.below hV))
        have L12 := Lib.hid (show BytesAt W12 lb 0 (dgs bs n) from (L10.out.wrote k11 (by omega)).wrote k12 (by omega))
        have z12 : W10.heap.size = W12.heap.size := by rw [k12.size, k11.size]
        clear k11 k12 e11 v12 N10 D10 E10 V10 B10 L10
        simp only [Act.put]
        go_upto_region 9 with fail
        refine wp_region_any (by kernel_rfl) ?_
        change wpAny _ _ _ _ _ _ _ (World.drew _)
        generalize hWD : W12.drew = WF
        have N13 := Lib.hid (show Dg WF d9 cs by rw [← hWD]; exact N12.out)
        have D13 := Lib.hid (show Dg WF d8 dd by rw [← hWD]; exact D12.out)
        have E13 := Lib.hid (show Dg WF eb ns by rw [← hWD]; exact E12.out)
        have V13 := Lib.hid (show Dg WF vb ns by rw [← hWD]; exact V12.out)
        have B13 := Lib.hid (show Below w.heap.size w WF by rw [← hWD]; exact B12.out.drew)
        have L13 := Lib.hid (show BytesAt WF lb 0 (dgs bs n) by rw [← hWD]; exact L12.out)
        have z13 : W12.heap.size = WF.heap.size := by rw [← hWD]; rfl
        clear hWD N12 D12 E12 V12 B12 L12
        refine region_C (fun u => Dg u eb ns ∧ Dg u vb ns) [11] ?_
        refine anyC_take (i := 0) (v := .agg (bv ns).toArray) rfl (by kernel_rfl) (by kernel_rfl) (by kernel_rfl) (fun _ _ _ h => h) (by kernel_rfl) ⟨E13.out, V13.out⟩ (yields_loadD rfl _ rfl eb rfl ns LNS.out (fun _ h => h.1)) ?_
        refine anyC_take (i := 1) (v := .agg (bv ns).toArray) rfl (by kernel_rfl) (by kernel_rfl) (by kernel_rfl) (fun _ _ _ h => h) (by kernel_rfl) ⟨E13.out, V13.out⟩ (yields_loadD rfl _ rfl vb rfl ns LNS.out (fun _ h => h.2)) ?_
        refine anyC_take (i := 2) (v := .bool false) rfl (by kernel_rfl) (by kernel_rfl) (by kernel_rfl) (fun _ _ _ h => h) (by kernel_rfl) ⟨E13.out, V13.out⟩ (.inl ⟨rfl, fun u _ => by go_simp⟩) ?_
        refine anyC_take (i := 3) (v := .bool false) rfl (by kernel_rfl) (by kernel_rfl) (by kernel_rfl) (fun _ _ _ h => h) (by kernel_rfl) ⟨E13.out, V13.out⟩ (.inl ⟨rfl, fun u _ => rfl⟩) ?_
        refine anyC_take (i := 4) (v := .agg (bv ns).toArray) rfl (by kernel_rfl) (by kernel_rfl) (by kernel_rfl) (fun _ _ _ h => h) (by kernel_rfl) ⟨E13.out, V13.out⟩ (yields_loadD rfl _ rfl eb rfl ns LNS.out (fun _ h => h.1)) ?_
        refine anyC_take (i := 6) (v := .slice (some ⟨d9, 0, none⟩) 32 32) rfl (by kernel_rfl) (by kernel_rfl) (by kernel_rfl) (fun _ _ _ h => h) (by kernel_rfl) ⟨E13.out, V13.out⟩ (.inl ⟨rfl, fun u _ => by go_simp⟩) ?_
        refine anyC_take (i := 8) (v := .slice (some ⟨d8, 0, none⟩) 32 32) rfl (by kernel_rfl) (by kernel_rfl) (by kernel_rfl) (fun _ _ _ h => h) (by kernel_rfl) ⟨E13.out, V13.out⟩ (.inl ⟨rfl, fun u _ => by go_simp⟩) ?_
        refine anyC_one 5 5 _ rfl rfl (by kernel_rfl) ?_
        (try simp only [Act.put])
        go_wp2_with fail
        change _ ∧ anyC _ _ _ _ _ _ 5 _ _ _
        refine ⟨⟨E13.out.alloc _, V13.out.alloc _⟩, ?_⟩
        generalize hW : World.alloc _ _ = WG
        have G14 := Lib.hid (show Blk WG WF.heap.size #[] 5 by rw [← hW]; exact Blk.emp WF)
        have N14 := Lib.hid (show Dg WG d9 cs by rw [← hW]; exact N13.out.alloc _)
        have D14 := Lib.hid (show Dg WG d8 dd by rw [← hW]; exact D13.out.alloc _)
        have E14 := Lib.hid (show Dg WG eb ns by rw [← hW]; exact E13.out.alloc _)
        have V14 := Lib.hid (show Dg WG vb ns by rw [← hW]; exact V13.out.alloc _)
        have B14 := Lib.hid (show Below w.heap.size w WG by rw [← hW]; exact B13.out.alloc B13.out.size _)
        have L14 := Lib.hid (show BytesAt WG lb 0 (dgs bs n) by rw [← hW]; exact L13.out.below (bel_alloc1 WF _) (by omega))
        have m1 := N13.out.lt
        have m2 := D13.out.lt
        have m3 := E13.out.lt
        have m4 := V13.out.lt
        have m5 := B13.out.size
        have m6 : lb < WF.heap.size := by omega
        clear hW N13 D13 E13 V13 B13 L13
        obtain ⟨gb, hgb⟩ : ∃ b, WF.heap.size = b := ⟨_, rfl⟩
        rw [hgb] at G14 m1 m2 m3 m4 m5 m6 ⊢
        clear hgb z13 z12
        refine anyC_one 7 4 _ rfl rfl (by kernel_rfl) ?_
        refine list_appA (by rfl) (.tmp 33) (.tmp 34) rfl gb d9 rfl G14.out rfl cs N14.out ?_
        intro v1 u1 o1 g1 b1
        have O15 := Lib.hid o1
        have D15 := Lib.hid (D14.out.below b1 m2)
        have E15 := Lib.hid (E14.out.below b1 m3)
        have V15 := Lib.hid (V14.out.below b1 m4)
        have B15 := Lib.hid (B14.out.trans (b1.mono m5))
        have L15 := Lib.hid (L14.out.below b1 m6)
        have lc15 := Lib.hid N14.out.2
        clear o1 b1 G14 N14 D14 E14 V14 B14 L14
        change _ ∧ anyC _ _ _ _ _ _ 4 _ _ _
        refine ⟨⟨E15.out, V15.out⟩, ?_⟩
        (try simp only [Act.put])
        refine anyC_one 9 3 _ rfl rfl (by kernel_rfl) ?_
        refine list_appB (by rfl) (.tmp 35) (.tmp 36) rfl gb d8 v1 rfl cs O15.out lc15.out g1 rfl dd D15.out ?_
        intro p2 c2 u2 s2 hc2 hm2 b2
        have S16 := Lib.hid s2
        have E16 := Lib.hid (E15.out.below b2 m3)
        have V16 := Lib.hid (V15.out.below b2 m4)
        have B16 := Lib.hid (B15.out.trans (b2.mono m5))
        have L16 := Lib.hid (L15.out.below b2 m6)
        have g2 : gb ≤ u2.heap.size := by have := b2.size; omega
        clear s2 b2 O15 D15 E15 V15 B15 L15
        change _ ∧ anyC _ _ _ _ _ _ 3 _ _ _
        refine ⟨⟨E16.out, V16.out⟩, ?_⟩
        (try simp only [Act.put])
        refine anyC_one 10 2 _ rfl rfl (by kernel_rfl) ?_
        (try simp only [Act.put])
        go_wp2_with fail
        refine (tagged_any _ p2 64 c2 (cs ++ dd) u2 (Lib.hid (.inl S16.out)) (Lib.hid (rng_append RR.out hDr.out)) (by decide) (by omega) (Lib.hid (hk.out.below B16.out)) ts ns HTS HSS).mono ?_
        rintro e u3 ⟨rfl, hb3⟩
        have E17 := Lib.hid (E16.out.bel hb3)
        have V17 := Lib.hid (V16.out.bel hb3)
        have B17 := Lib.hid (B16.out.trans (hb3.mono B16.out.size))
        have L17 := Lib.hid (L16.out.below hb3 (by omega))
        have g3 : lb < u3.heap.size := by have := hb3.size; omega
        clear hb3 S16 E16 V16 B16 L16
        go_wp2_with fail
        change _ ∧ anyC _ _ _ _ _ _ 2 _ _ _
        refine ⟨⟨E17.out, V17.out⟩, ?_⟩
        refine anyC_tail 11 [12] rfl rfl (by decide) (by kernel_rfl) ?_
        simp only [Act.put, List.filterMap_cons, List.filterMap_nil, List.getElem?_cons_succ, List.getElem?_cons_zero]
        go_wp2_with fail
        go_roundw
        case rel => exact ⟨k + 1, ns, by omega, by go_num, E17, V17, RNS, B17, L17, g3⟩
        case measure => simp [intOf]; omega
      · go_wp2_with fail
        go_ret
        exact ⟨rfl, RB.out⟩
  case r2 =>
    simp only [Act.put]
    go_wp2_with fail
    change _ ∧ anyC _ _ _ _ _ _ 3 _ _ _
    refine ⟨F2.out.alloc _, ?_⟩
    refine anyC_one 2 2 _ rfl rfl (by kernel_rfl) ?_
    go_wp2_with fail
    change _ ∧ anyC _ _ _ _ _ _ 2 _ _ _
    refine ⟨(F2.out.alloc _).alloc _, ?_⟩
    generalize hW2 : World.alloc _ _ = W2
    have E3 := Lib.hid (show Dg W2 (WD.heap.size + 1) (List.replicate 32 0) by rw [← hW2]; exact (by have := Dg.new (WD.alloc (.cells #[.int .u8 0, .int .u8 0, .int .u8 0, .int .u8 0, .int .u8 0, .int .u8 0, .int .u8 0, .int .u8 0, .int .u8 0, .int .u8 0, .int .u8 0, .int .u8 0, .int .u8 0, .int .u8 0, .int .u8 0, .int .u8 0, .int .u8 0, .int .u8 0, .int .u8 0, .int .u8 0, .int .u8 0, .int .u8 0, .int .u8 0, .int .u8 0, .int .u8 0, .int .u8 0, .int .u8 0, .int .u8 0, .int .u8 0, .int .u8 0, .int .u8 0, .int .u8 0] 26)); rw [alloc_sz] at this; exact this))
    have V3 := Lib.hid (show Dg W2 (WD.heap.size) (List.replicate 32 0) by rw [← hW2]; exact ((Dg.new WD).alloc _))
    have F3 := Lib.hid (show Dg W2 fb fs by rw [← hW2]; exact (F2.out.alloc _).alloc _)
    have B3 := Lib.hid (show Below w.heap.size w W2 by rw [← hW2]; exact (B2.out.alloc B2.out.size _).alloc (by have := B2.out.size; simp; omega) _)
    have lF := F2.out.lt
    have lB := B2.out.size
    clear hW2 F2 B2
    obtain ⟨hb, hhb⟩ : ∃ b, WD.heap.size = b := ⟨_, rfl⟩
    rw [hhb] at E3 V3 lF lB ⊢
    clear hhb
    refine anyC_one 4 1 _ rfl rfl (by kernel_rfl) ?_
    refine list_storeD rfl (.tmp 5) (.tmp 12) rfl (hb + 1) rfl fs rfl hfl.out _ E3.out ?_
    intro u3 e3 k3
    have E4 := Lib.hid e3
    have V4 := Lib.hid (V3.out.wrote k3 (by omega))
    have F4 := Lib.hid (F3.out.wrote k3 (by omega))
    have B4 := Lib.hid (B3.out.trans (k3.below (by omega)))
    clear e3 k3 E3 V3 F3 B3
    change _ ∧ anyC _ _ _ _ _ _ 1 _ _ _
    refine ⟨F4.out, ?_⟩
    refine anyC_tail 5 [] rfl rfl (by decide) (by kernel_rfl) ?_
    simp only [Act.put, List.filterMap_cons, List.filterMap_nil, List.getElem?_cons_succ, List.getElem?_cons_zero]
    refine list_storeD rfl (.tmp 6) (.tmp 13) rfl (hb) rfl fs rfl hfl.out _ V4.out ?_
    intro u4 v4 k4
    have E5 := Lib.hid (E4.out.wrote k4 (by omega))
    have V5 := Lib.hid v4
    have B5 := Lib.hid (B4.out.trans (k4.below (by omega)))
    clear v4 k4 E4 V4 F4 B4
    obtain ⟨eb, heb⟩ : ∃ b, hb + 1 = b := ⟨_, rfl⟩
    obtain ⟨vb, hvb⟩ : ∃ b, hb = b := ⟨_, rfl⟩
    have hne : eb ≠ vb := by omega
    have hE : w.heap.size ≤ eb := by omega
    have hV : w.heap.size ≤ vb := by omega
    rw [heb] at E5 ⊢
    rw [hvb] at V5 ⊢
    clear heb hvb lF lB
    go_wp2_with fail
    refine (digestsOf_any p m cap bs u4 (Lib.hid (hz.out.below B5.out)) hr hm).mono ?_
    rintro e w5 ⟨lb, lcap, rfl, hl1, hl2, hl3, hl4, hl5, hb5⟩
    have E6 := Lib.hid (E5.out.bel hb5)
    have V6 := Lib.hid (V5.out.bel hb5)
    have B6 := Lib.hid (B5.out.trans (hb5.mono B5.out.size))
    have hLr := Lib.hid (dgs_rng bs (min m 24) (by omega))
    have hLl := Lib.hid (dgs_len bs (min m 24))
    have hLB := Lib.hid hl5
    have hn24 : min m 24 ≤ 24 := by omega
    obtain ⟨n, hn⟩ : ∃ n, min m 24 = n := ⟨_, rfl⟩
    rw [hn] at hLr hLl hLB hn24 hl3 ⊢
    have hml : maxLen ≤ 9223372036854775807 := by decide
    have heL : eb ≠ lb := by have := E5.out.lt; omega
    have hvL : vb ≠ lb := by have := V5.out.lt; omega
    have hlw : w.heap.size ≤ lb := by have := B5.out.size; omega
    clear hl5 hb5 E5 V5 B5 hn hl1
    go_wp2_with fail
    go_loopw [17] (fun i wr => ∃ (k : Nat) (cs : List Int), k ≤ n ∧ i = .int .i64 k ∧ Hid (Dg wr eb cs) ∧ Hid (Dg wr vb cs) ∧ Hid (∀ z ∈ cs, 0 ≤ z ∧ z ≤ 255) ∧ Hid (Below w.heap.size w wr) ∧ Hid (BytesAt wr lb 0 (dgs bs n)) ∧ lb < wr.heap.size) (fun i _ => n - (intOf i).toNat)
    case atStart => exact ⟨0, fs, by omega, rfl, E6, V6, hfr, B6, hLB, hl2⟩
    case round =>
      obtain ⟨k, cs, hkn, rfl, RE, RV, RR, RB, RL, hlt⟩ := hrel
      clear E6 V6 B6 hLB hl2
      by_cases hlt2 : k < n
      · have hL32 : ((dgs bs n).drop (32 * k)).take 32 = dgOf bs k := take_dg bs n k hlt2
        have hDk : Hid (BytesAt wr lb (k * 32) (dgOf bs k)) := Lib.hid (by have := (RL.out.drop (32 * k)).take 32; rw [hL32, Nat.zero_add, Nat.mul_comm] at this; exact this)
        have hDr : Hid (∀ z ∈ dgOf bs k, 0 ≤ z ∧ z ≤ 255) := Lib.hid (dgOf_rng bs k (by omega))
        obtain ⟨dd, hdd⟩ : ∃ dd, dgOf bs k = dd := ⟨_, rfl⟩
        have hDl : dd.length = 32 := by rw [← hdd]; rfl
        rw [hdd] at hDk hDr
        clear hdd hL32
        have HDL := Lib.hid hDl
        obtain ⟨ns, hns⟩ := isTag_ex (strL ⟨#[99, 104, 97, 105, 110]⟩) (cs ++ dd)
        have HNS := Lib.hid hns
        have LNS := Lib.hid hns.len
        have RNS := Lib.hid hns.rng
        have EQ := eqDig_same ns hns.len
        obtain ⟨ts, hts, hss⟩ := hns
        have HTS := Lib.hid hts
        have HSS := Lib.hid hss
        clear hts hss hDl
        have le := RE.out.lt
        have lv := RV.out.lt
        have lw := RB.out.size
        go_wp2_with (first
          | (refine list_loadM (by rfl) (.tmp 19) rfl lb (k * 32) rfl dd hDk.out HDL.out ?_)
          | (refine list_storeD rfl (.tmp 8) (.tmp 20) rfl wr.heap.size rfl dd rfl HDL.out _ (Dg.new wr) ?_))
        intro w6 d6 k6
        have K6 : Below wr.heap.size wr w6 := (bel_alloc1 wr _).trans (k6.below (Nat.le_refl _))
        have D6 := Lib.hid d6
        have E6 := Lib.hid (RE.out.bel K6)
        have V6 := Lib.hid (RV.out.bel K6)
        have B6 := Lib.hid (RB.out.trans (K6.mono lw))
        have L6 := Lib.hid (RL.out.below K6 hlt)
        have z6 : wr.heap.size < w6.heap.size := d6.lt
        clear K6 d6 k6 RE RV RB RL hDk
        obtain ⟨d8, hd8⟩ : ∃ b, wr.heap.size = b := ⟨_, rfl⟩
        rw [hd8] at D6 le lv lw z6 hlt ⊢
        clear hd8
        go_wp2_with (first
          | (refine list_loadD (by rfl) (.tmp 5) rfl eb rfl cs E6.out ?_)
          | (refine list_storeD rfl (.tmp 9) (.tmp 21) rfl w6.heap.size rfl cs rfl E6.out.2 _ (Dg.new w6) ?_))
        intro w7 d7 k7
        have K7 : Below w6.heap.size w6 w7 := (bel_alloc1 w6 _).trans (k7.below (Nat.le_refl _))
        have N7 := Lib.hid d7
        have D7 := Lib.hid (D6.out.bel K7)
        have E7 := Lib.hid (E6.out.bel K7)
        have V7 := Lib.hid (V6.out.bel K7)
        have B7 := Lib.hid (B6.out.trans (K7.mono (by omega)))
        have L7 := Lib.hid (L6.out.below K7 (by omega))
        have z7 : w6.heap.size < w7.heap.size := d7.lt
        clear K7 d7 k7 D6 E6 V6 B6 L6
        obtain ⟨d9, hd9⟩ : ∃ b, w6.heap.size = b := ⟨_, rfl⟩
        rw [hd9] at N7 z6 z7 ⊢
        clear hd9
        go_upto_region 8 with fail
        refine wp_region_any (by kernel_rfl) ?_
        change wpAny _ _ _ _ _ _ _ (World.drew _)
        generalize hWD : w7.drew = WE
        have N8 := Lib.hid (show Dg WE d9 cs by rw [← hWD]; exact N7.out)
        have D8 := Lib.hid (show Dg WE d8 dd by rw [← hWD]; exact D7.out)
        have E8 := Lib.hid (show Dg WE eb cs by rw [← hWD]; exact E7.out)
        have V8 := Lib.hid (show Dg WE vb cs by rw [← hWD]; exact V7.out)
        have B8 := Lib.hid (show Below w.heap.size w WE by rw [← hWD]; exact B7.out.drew)
        have L8 := Lib.hid (show BytesAt WE lb 0 (dgs bs n) by rw [← hWD]; exact L7.out)
        have z8 : w7.heap.size = WE.heap.size := by rw [← hWD]; rfl
        clear hWD N7 D7 E7 V7 B7 L7
        refine region_C (fun u => Dg u eb cs ∧ Dg u vb cs ∧ Dg u d8 dd) [6] ?_
        refine anyC_take (i := 0) (v := .agg (bv cs).toArray) rfl (by kernel_rfl) (by kernel_rfl) (by kernel_rfl) (fun _ _ _ h => h) (by kernel_rfl) ⟨E8.out, V8.out, D8.out⟩ (yields_loadD rfl _ rfl eb rfl cs E8.out.2 (fun _ h => h.1)) ?_
        refine anyC_take (i := 1) (v := .agg (bv dd).toArray) rfl (by kernel_rfl) (by kernel_rfl) (by kernel_rfl) (fun _ _ _ h => h) (by kernel_rfl) ⟨E8.out, V8.out, D8.out⟩ (yields_loadD rfl _ rfl d8 rfl dd D8.out.2 (fun _ h => h.2.2)) ?_
        refine anyC_take (i := 3) (v := .agg (bv cs).toArray) rfl (by kernel_rfl) (by kernel_rfl) (by kernel_rfl) (fun _ _ _ h => h) (by kernel_rfl) ⟨E8.out, V8.out, D8.out⟩ (yields_loadD rfl _ rfl vb rfl cs V8.out.2 (fun _ h => h.2.1)) ?_
        refine anyC_take (i := 4) (v := .agg (bv dd).toArray) rfl (by kernel_rfl) (by kernel_rfl) (by kernel_rfl) (fun _ _ _ h => h) (by kernel_rfl) ⟨E8.out, V8.out, D8.out⟩ (yields_loadD rfl _ rfl d8 rfl dd D8.out.2 (fun _ h => h.2.2)) ?_
        refine anyC_one 2 3 _ rfl rfl (by kernel_rfl) ?_
        (try simp only [Act.put])
        go_wp2_with fail
        refine (chain_any cs dd ns _ (Lib.hid E8.out.2) (Lib.hid D8.out.2) RR hDr (Lib.hid (hk.out.below B8.out)) HNS).mono ?_
        rintro e W9 ⟨rfl, hb_⟩
        have N9 := Lib.hid (N8.out.bel hb_)
        have D9 := Lib.hid (D8.out.bel hb_)
        have E9 := Lib.hid (E8.out.bel hb_)
        have V9 := Lib.hid (V8.out.bel hb_)
        have B9 := Lib.hid (B8.out.trans (hb_.mono B8.out.size))
        have L9 := Lib.hid (L8.out.below hb_ (by omega))
        have z9 := hb_.size
        clear hb_ N8 D8 E8 V8 B8 L8
        go_wp2_with fail
        change _ ∧ anyC _ _ _ _ _ _ 3 _ _ _
        refine ⟨⟨E9.out, V9.out, D9.out⟩, ?_⟩
        refine anyC_one 5 2 _ rfl rfl (by kernel_rfl) ?_
        (try simp only [Act.put])
        go_wp2_with fail
        refine (rchain_any cs dd ns _ (Lib.hid E9.out.2) (Lib.hid D9.out.2) RR hDr HNS).mono ?_
        rintro e W10 ⟨rfl, hb_⟩
        have N10 := Lib.hid (N9.out.bel hb_)
        have D10 := Lib.hid (D9.out.bel hb_)
        have E10 := Lib.hid (E9.out.bel hb_)
        have V10 := Lib.hid (V9.out.bel hb_)
        have B10 := Lib.hid (B9.out.trans (hb_.mono B9.out.size))
        have L10 := Lib.hid (L9.out.below hb_ (by omega))
        have z10 := hb_.size
        clear hb_ N9 D9 E9 V9 B9 L9
        go_wp2_with fail
        change _ ∧ anyC _ _ _ _ _ _ 2 _ _ _
        refine ⟨⟨E10.out, V10.out, D10.out⟩, ?_⟩
        refine anyC_tail 6 [7] rfl rfl (by decide) (by kernel_rfl) ?_
        simp only [Act.put, List.filterMap_cons, List.filterMap_nil, List.getElem?_cons_succ, List.getElem?_cons_zero]
        refine list_storeD rfl (.tmp 5) (.tmp 24) rfl eb rfl ns rfl LNS.out _ E10.out ?_
        intro W11 e11 k11
        refine list_storeD rfl (.tmp 6) (.tmp 27) rfl vb rfl ns rfl LNS.out _ (V10.out.wrote k11 (Ne.symm hne)) ?_
        intro W12 v12 k12
        have N12 := Lib.hid ((N10.out.wrote k11 (by omega)).wrote k12 (by omega))
        have D12 := Lib.hid ((D10.out.wrote k11 (by omega)).wrote k12 (by omega))
        have E12 := Lib.hid (e11.wrote k12 hne)
        have V12 := Lib.hid v12
        have B12 := Lib.hid ((B10.out.trans (k11.below hE)).trans (k12.below hV))
        have L12 := Lib.hid (show BytesAt W12 lb 0 (dgs bs n) from (L10.out.wrote k11 (by omega)).wrote k12 (by omega))
        have z12 : W10.heap.size = W12.heap.size := by rw [k12.size, k11.size]
        clear k11 k12 e11 v12 N10 D10 E10 V10 B10 L10
        simp only [Act.put]
        go_upto_region 9 with fail
        refine wp_region_any (by kernel_rfl) ?_
        change wpAny _ _ _ _ _ _ _ (World.drew _)
        generalize hWD : W12.drew = WF
        have N13 := Lib.hid (show Dg WF d9 cs by rw [← hWD]; exact N12.out)
        have D13 := Lib.hid (show Dg WF d8 dd by rw [← hWD]; exact D12.out)
        have E13 := Lib.hid (show Dg WF eb ns by rw [← hWD]; exact E12.out)
        have V13 := Lib.hid (show Dg WF vb ns by rw [← hWD]; exact V12.out)
        have B13 := Lib.hid (show Below w.heap.size w WF by rw [← hWD]; exact B12.out.drew)
        have L13 := Lib.hid (show BytesAt WF lb 0 (dgs bs n) by rw [← hWD]; exact L12.out)
        have z13 : W12.heap.size = WF.heap.size := by rw [← hWD]; rfl
        clear hWD N12 D12 E12 V12 B12 L12
        refine region_C (fun u => Dg u eb ns ∧ Dg u vb ns) [11] ?_
        refine anyC_take (i := 0) (v := .agg (bv ns).toArray) rfl (by kernel_rfl) (by kernel_rfl) (by kernel_rfl) (fun _ _ _ h => h) (by kernel_rfl) ⟨E13.out, V13.out⟩ (yields_loadD rfl _ rfl eb rfl ns LNS.out (fun _ h => h.1)) ?_
        refine anyC_take (i := 1) (v := .agg (bv ns).toArray) rfl (by kernel_rfl) (by kernel_rfl) (by kernel_rfl) (fun _ _ _ h => h) (by kernel_rfl) ⟨E13.out, V13.out⟩ (yields_loadD rfl _ rfl vb rfl ns LNS.out (fun _ h => h.2)) ?_
        refine anyC_take (i := 2) (v := .bool false) rfl (by kernel_rfl) (by kernel_rfl) (by kernel_rfl) (fun _ _ _ h => h) (by kernel_rfl) ⟨E13.out, V13.out⟩ (.inl ⟨rfl, fun u _ => by go_simp⟩) ?_
        refine anyC_take (i := 3) (v := .bool false) rfl (by kernel_rfl) (by kernel_rfl) (by kernel_rfl) (fun _ _ _ h => h) (by kernel_rfl) ⟨E13.out, V13.out⟩ (.inl ⟨rfl, fun u _ => rfl⟩) ?_
        refine anyC_take (i := 4) (v := .agg (bv ns).toArray) rfl (by kernel_rfl) (by kernel_rfl) (by kernel_rfl) (fun _ _ _ h => h) (by kernel_rfl) ⟨E13.out, V13.out⟩ (yields_loadD rfl _ rfl eb rfl ns LNS.out (fun _ h => h.1)) ?_
        refine anyC_take (i := 6) (v := .slice (some ⟨d9, 0, none⟩) 32 32) rfl (by kernel_rfl) (by kernel_rfl) (by kernel_rfl) (fun _ _ _ h => h) (by kernel_rfl) ⟨E13.out, V13.out⟩ (.inl ⟨rfl, fun u _ => by go_simp⟩) ?_
        refine anyC_take (i := 8) (v := .slice (some ⟨d8, 0, none⟩) 32 32) rfl (by kernel_rfl) (by kernel_rfl) (by kernel_rfl) (fun _ _ _ h => h) (by kernel_rfl) ⟨E13.out, V13.out⟩ (.inl ⟨rfl, fun u _ => by go_simp⟩) ?_
        refine anyC_one 5 5 _ rfl rfl (by kernel_rfl) ?_
        (try simp only [Act.put])
        go_wp2_with fail
        change _ ∧ anyC _ _ _ _ _ _ 5 _ _ _
        refine ⟨⟨E13.out.alloc _, V13.out.alloc _⟩, ?_⟩
        generalize hW : World.alloc _ _ = WG
        have G14 := Lib.hid (show Blk WG WF.heap.size #[] 5 by rw [← hW]; exact Blk.emp WF)
        have N14 := Lib.hid (show Dg WG d9 cs by rw [← hW]; exact N13.out.alloc _)
        have D14 := Lib.hid (show Dg WG d8 dd by rw [← hW]; exact D13.out.alloc _)
        have E14 := Lib.hid (show Dg WG eb ns by rw [← hW]; exact E13.out.alloc _)
        have V14 := Lib.hid (show Dg WG vb ns by rw [← hW]; exact V13.out.alloc _)
        have B14 := Lib.hid (show Below w.heap.size w WG by rw [← hW]; exact B13.out.alloc B13.out.size _)
        have L14 := Lib.hid (show BytesAt WG lb 0 (dgs bs n) by rw [← hW]; exact L13.out.below (bel_alloc1 WF _) (by omega))
        have m1 := N13.out.lt
        have m2 := D13.out.lt
        have m3 := E13.out.lt
        have m4 := V13.out.lt
        have m5 := B13.out.size
        have m6 : lb < WF.heap.size := by omega
        clear hW N13 D13 E13 V13 B13 L13
        obtain ⟨gb, hgb⟩ : ∃ b, WF.heap.size = b := ⟨_, rfl⟩
        rw [hgb] at G14 m1 m2 m3 m4 m5 m6 ⊢
        clear hgb z13 z12
        refine anyC_one 7 4 _ rfl rfl (by kernel_rfl) ?_
        refine list_appA (by rfl) (.tmp 33) (.tmp 34) rfl gb d9 rfl G14.out rfl cs N14.out ?_
        intro v1 u1 o1 g1 b1
        have O15 := Lib.hid o1
        have D15 := Lib.hid (D14.out.below b1 m2)
        have E15 := Lib.hid (E14.out.below b1 m3)
        have V15 := Lib.hid (V14.out.below b1 m4)
        have B15 := Lib.hid (B14.out.trans (b1.mono m5))
        have L15 := Lib.hid (L14.out.below b1 m6)
        have lc15 := Lib.hid N14.out.2
        clear o1 b1 G14 N14 D14 E14 V14 B14 L14
        change _ ∧ anyC _ _ _ _ _ _ 4 _ _ _
        refine ⟨⟨E15.out, V15.out⟩, ?_⟩
        (try simp only [Act.put])
        refine anyC_one 9 3 _ rfl rfl (by kernel_rfl) ?_
        refine list_appB (by rfl) (.tmp 35) (.tmp 36) rfl gb d8 v1 rfl cs O15.out lc15.out g1 rfl dd D15.out ?_
        intro p2 c2 u2 s2 hc2 hm2 b2
        have S16 := Lib.hid s2
        have E16 := Lib.hid (E15.out.below b2 m3)
        have V16 := Lib.hid (V15.out.below b2 m4)
        have B16 := Lib.hid (B15.out.trans (b2.mono m5))
        have L16 := Lib.hid (L15.out.below b2 m6)
        have g2 : gb ≤ u2.heap.size := by have := b2.size; omega
        clear s2 b2 O15 D15 E15 V15 B15 L15
        change _ ∧ anyC _ _ _ _ _ _ 3 _ _ _
        refine ⟨⟨E16.out, V16.out⟩, ?_⟩
        (try simp only [Act.put])
        refine anyC_one 10 2 _ rfl rfl (by kernel_rfl) ?_
        (try simp only [Act.put])
        go_wp2_with fail
        refine (tagged_any _ p2 64 c2 (cs ++ dd) u2 (Lib.hid (.inl S16.out)) (Lib.hid (rng_append RR.out hDr.out)) (by decide) (by omega) (Lib.hid (hk.out.below B16.out)) ts ns HTS HSS).mono ?_
        rintro e u3 ⟨rfl, hb3⟩
        have E17 := Lib.hid (E16.out.bel hb3)
        have V17 := Lib.hid (V16.out.bel hb3)
        have B17 := Lib.hid (B16.out.trans (hb3.mono B16.out.size))
        have L17 := Lib.hid (L16.out.below hb3 (by omega))
        have g3 : lb < u3.heap.size := by have := hb3.size; omega
        clear hb3 S16 E16 V16 B16 L16
        go_wp2_with fail
        change _ ∧ anyC _ _ _ _ _ _ 2 _ _ _
        refine ⟨⟨E17.out, V17.out⟩, ?_⟩
        refine anyC_tail 11 [12] rfl rfl (by decide) (by kernel_rfl) ?_
        simp only [Act.put, List.filterMap_cons, List.filterMap_nil, List.getElem?_cons_succ, List.getElem?_cons_zero]
        go_wp2_with fail
        go_roundw
        case rel => exact ⟨k + 1, ns, by omega, by go_num, E17, V17, RNS, B17, L17, g3⟩
        case measure => simp [intOf]; omega
      · go_wp2_with fail
        go_ret
        exact ⟨rfl, RB.out⟩

namespace digestChains
theorem readable : ∀ t ∈ Tryd.f10.params.toList, Tryd.prog.readableRec t = true ∧ t < Tryd.prog.types.size := by
  rw [Tryd.params10]
  intro t ht
  simp only [List.mem_cons, List.not_mem_nil, or_false] at ht
  rcases ht with rfl | rfl
  all_goals exact ⟨by kernel_rfl, by decide +kernel⟩

set_option maxRecDepth 100000 in
theorem lifted (os : Os) (started : os.Started) (H : Type) (enc : TypeId × Value → H) :
    ReturnsInHanded {} Tryd.checked os 10 .any (fun w args => (Rows.digestChainsSpec.pre enc Tryd.prog Tryd.f10 [] false w args ∧ laidMetH Tryd.prog laidK w) ∧ sizedMet enc Tryd.prog Tryd.f10 (OpenSpec.ofChange Rows.digestChainsSpec) false w args)
      (Rows.digestChainsSpec.post enc Tryd.prog Tryd.f10 false true false false) := by
  refine returnsInHanded_of_change_and (C := Tryd.checked) (X := fun w _ => laidMetH Tryd.prog laidK w) (fun _ _ _ hh h => h.of_heap hh) own_knob started (by kernel_rfl) Tryd.func10
    (ChangeSpec.witness_shaped (enc := enc) (C := Tryd.checked) (os := os) (X := fun w _ => laidMetH Tryd.prog laidK w) false (World.doorLaid Tryd.prog 400 os) #[.agg (bv (List.replicate 32 0)).toArray, .slice none 0 0] 8 rfl (World.shaped_of_RefB (by kernel_rfl) (by kernel_rfl)) (by kernel_rfl) (by kernel_rfl) (by kernel_rfl) (door_met os _)) ?_
  intro W base args ds gs before hval0 hW _ _ hL _
  have hval : ∀ (j : Nat) t v, Tryd.f10.params[j]? = some t → args[j]? = some v → Value.okWide Tryd.prog W .any base t v := hval0
  have hW' := hW
  obtain ⟨p, q, hA0, hV, rfl, hfz, hnd⟩ := hW
  have hA : DataW.TrodAll enc Tryd.prog W 0 (fun _ => true) true Tryd.f10.params.toList args.toList ds p := hA0
  rw [Tryd.params10] at hA hval
  obtain ⟨v0, vs0, d0, ds0, p0, q0, hargs, rfl, rfl, h0, r0⟩ := trodAll_cons hA
  obtain ⟨v1, vs1, d1, ds1, p1, q1, rfl, rfl, rfl, h1, r1⟩ := trodAll_cons r0
  obtain ⟨rfl, rfl, rfl⟩ := trodAll_nil r1
  obtain rfl : args = #[v0, v1] := by cases args; simp_all
  obtain ⟨rfl, rfl⟩ := trodVars_none hV
  obtain ⟨z0, rfl, w0, x0⟩ := open_dig Tryd.underlying26 Tryd.underlying5 (by kernel_rfl) (by kernel_rfl) (hval 0 26 v0 rfl rfl) h0
  obtain ⟨s1, n1, c1, z1, rfl, w1, x1, y1, u1⟩ := open_src Tryd.underlying22 Tryd.underlying5 (by kernel_rfl) (hval 1 22 v1 rfl rfl) h1
  have hK := of_laid hL
  clear hA0 hval0
  refine (digestChains_walk z0 s1 n1 c1 z1 W (Lib.hid w0) (Lib.hid x0) (Lib.hid w1) (Lib.hid x1) (by unfold maxLen at u1; omega) (Lib.hid hK)).mono fun e W' ⟨he, hb⟩ => ?_
  subst he
  exact ⟨_, rfl, law_post laid_out readable rfl rfl Tryd.underlying4 hW' rfl rfl rfl hb⟩

theorem over : Rows.digestChainsRow.holds Tryd.pinned (OpenSpec.ofChange Rows.digestChainsSpec) :=
  OpenClaim.holds_of_wide 10 Tryd.f10 rfl rfl rfl rfl rfl rfl rfl ⟨rfl, rfl, rfl, rfl, rfl⟩ rfl rfl rfl rfl rfl (by kernel_rfl) Tryd.func10 (by kernel_rfl)
    (of_decide_eq_true (by kernel_rfl)) (by unfold Func.isWrapper; first | (rw [if_pos (by decide +kernel)]; kernel_rfl) | (rw [if_neg (by decide +kernel)]; exact ⟨rfl, rfl⟩))
    (fun os started H enc _ => lifted os started H enc)

/-- the statement: the tied card -/
theorem proved : Rows.DigestChainsCardSaid :=
  Claim7.holds_tied_plain_at .later [] [.data] true (true, "3cbd8a75db85d0d7a91da629822e7c026b5a1beeafa1458dde1bbca6aeb395d6") false
    over (fun _ h => by cases h) (by kernel_rfl) (fun _ h => by cases h) digestChains_row_tie rfl ⟨rfl, rfl⟩ (by kernel_rfl) rfl
    (fun f fn hf hfn => by
      obtain rfl : f = 10 := Option.some.inj ((show Tryd.prog.funcNamed "franking/frankinglaw02.DigestChains" = some 10 by kernel_rfl).symm.trans hf) |>.symm
      obtain rfl : fn = Tryd.f10 := (Option.some.inj (Tryd.func10.symm.trans hfn)).symm
      exact ⟨by kernel_rfl, fun j t ht => by
        rw [Tryd.params10] at ht
        have hm : t ∈ [26, 22] := by simpa using Array.mem_of_getElem? ht
        have hall : ([26, 22].all fun u => !Tryd.prog.wantsStandIn u) = true := by kernel_rfl
        exact (show Tryd.prog.wantsStandIn t = false by simpa using List.all_eq_true.1 hall t hm)⟩)
    (by kernel_rfl)
end digestChains
end Go.Proofs.YtmheblpgofeafaaDoor
