/- For every list whose length is a power of two and a further element, the digest of the longer list is the node of the digest of the list and the leaf of the element, and the path of the element is the digest of the list alone. No condition. -/
import Derived.Test.YtmheblpgofeafaaDoorDigAppX
import Derived.Test.YtmheblpgofeafaaDoorDigRoot
import Derived.Test.YtmheblpgofeafaaDoorRegU3
import Derived.Test.YtmheblpgofeafaaDoorDigCard2
namespace Go.Proofs.YtmheblpgofeafaaDoor
open Go.ChangeShapes Go.WideShapes Go.ChangeAt Go.RowKit Go.WideElems
set_option linter.unusedVariables false
set_option linter.unusedSimpArgs false

theorem take_dgN (bs : List Int) : ∀ (n i : Nat), i < n → ((dgs bs n).drop (32 * i)).take 32 = dgOf bs i
  | 0, i, h => by omega
  | n + 1, i, h => by
    have hl := dgs_len bs n
    rcases (by omega : i = n ∨ i < n) with rfl | h1
    · rw [dgs, ← hl, List.drop_left, List.take_of_length_le (by rw [dgOf_len]; omega)]
    · rw [dgs, List.drop_append_of_le_length (by omega), List.take_append_of_le_length (by rw [List.length_drop]; omega)]
      exact take_dgN bs n i h1
theorem ownR_someN {w : World} {B n cap : Nat} {q : Option Addr} {fs : List Int} (h : OwnR w B (.slice q n cap) n fs) : ∀ q', q = some q' → ∃ b off, q' = ⟨b, off, none⟩ := by
  intro q' e
  subst e
  obtain ⟨_, ⟨e, _⟩ | ⟨g, cap', cur, e, _⟩⟩ := h
  · cases e
  · cases e; exact ⟨g, 0, rfl⟩
set_option maxRecDepth 100000 in
set_option maxHeartbeats 16000000 in
theorem digestNext_walk (p : Option Addr) (m cap : Nat) (bs dd : List Int) (w : World) (hz : Hid (SrcW w p m cap bs)) (hr : Hid (∀ z ∈ bs, 0 ≤ z ∧ z ≤ 255)) (hm : m ≤ 9223372036854775807) (HDL : Hid (dd.length = 32)) (HDR : Hid (∀ z ∈ dd, 0 ≤ z ∧ z ≤ 255)) (hk : Hid (KeysAt w)) :
    Calls Tryd.prog 8 #[.slice p m cap, .agg (bv dd).toArray] w fun e w' => e = .returned (.bool true) ∧ Below w.heap.size w w' := by
  go_enter Tryd.func8, Tryd.ntmps8
  go_wp2_with fail
  generalize hW : World.alloc _ _ = w0
  have D0 := Lib.hid (show Dg w0 w.heap.size dd by rw [← hW]; exact Dg.box w HDL.out)
  have B0 := Lib.hid (show Below w.heap.size w w0 by rw [← hW]; exact bel_alloc1 w _)
  clear hW
  obtain ⟨db, hdb⟩ : ∃ b, w.heap.size = b := ⟨_, rfl⟩
  have hF : w.heap.size ≤ db := by omega
  have B0' : Hid (Below w.heap.size w w0) := B0
  rw [hdb] at D0 ⊢
  clear hdb B0
  refine (dsane_any w0 (Lib.hid (hk.out.below B0'.out))).mono ?_; rintro e w1 ⟨rfl, hb⟩
  have D1 := Lib.hid (D0.out.bel hb)
  have B1 := Lib.hid (B0'.out.trans (hb.mono B0'.out.size)); clear hb D0 B0'
  go_wp2_with fail
  refine (digestsOf_any p m cap bs w1 (Lib.hid (hz.out.below B1.out)) hr hm).mono ?_
  rintro e w2 ⟨lb, lcap, rfl, hl1, hl2, hl3, hl4, hl5, hb5⟩
  have D2 := Lib.hid (D1.out.bel hb5)
  have B2 := Lib.hid (B1.out.trans (hb5.mono B1.out.size))
  have hLr := Lib.hid (dgs_rng bs (min m 24) (by omega))
  have hLl := Lib.hid (dgs_len bs (min m 24))
  have hLB := Lib.hid hl5
  have hLe : Hid (∀ i, i < min m 24 → ((dgs bs (min m 24)).drop (32 * i)).take 32 = dgOf bs i) := Lib.hid (take_dgN bs (min m 24))
  have hn24 : min m 24 ≤ 24 := by omega
  obtain ⟨n, hn⟩ : ∃ n, min m 24 = n := ⟨_, rfl⟩
  rw [hn] at hLr hLl hLB hLe hn24 hl3 ⊢
  obtain ⟨L, hL⟩ : ∃ L, dgs bs n = L := ⟨_, rfl⟩
  rw [hL] at hLr hLl hLB hLe
  have hml : maxLen ≤ 9223372036854775807 := by decide
  clear hl5 hb5 B1 D1 hn hl1 hL
  have SD : Hid (SrcD w2 (some ⟨lb, 0, none⟩) n lcap L) := Lib.hid ⟨hLl.out, hl3, hl4, .inr ⟨lb, 0, rfl, hl2, hLB.out⟩⟩
  obtain ⟨bl, hbl⟩ := isTag_ex (strL sLeaf) dd
  have HBL := Lib.hid hbl
  have HBLl := Lib.hid hbl.len
  have HBLr := Lib.hid hbl.rng
  obtain ⟨zs, hzs⟩ : ∃ zs, List.replicate 32 (0 : Int) = zs := ⟨_, rfl⟩
  have HZS := Lib.hid hzs
  have HZL : Hid (zs.length = 32) := Lib.hid (by rw [← hzs]; rfl)
  clear hzs hbl SD
  go_wp2_with fail
  go_loopw [6] (fun i wr => ∃ (kk j : Nat), 0 < kk ∧ kk ≤ 48 ∧ i = .int .i64 kk ∧ Hid (kk = 2 ^ j) ∧ Hid (Dg wr db dd) ∧ Hid (BytesAt wr lb 0 L) ∧ lb < wr.heap.size ∧ Hid (Below w.heap.size w wr)) (fun i _ => 100 - (intOf i).toNat)
  case atStart => exact ⟨1, 0, by omega, by omega, rfl, Lib.hid rfl, D2, hLB, hl2, B2⟩
  case round =>
    obtain ⟨kk, j, kk0, kk1, rfl, hkj, RD, RL, hlt, RB⟩ := hrel
    clear D2 hLB hl2 B2
    by_cases hkn : kk ≤ n
    case neg =>
      go_wp2_with fail
      go_ret
      exact ⟨rfl, RB.out⟩
    have hsp : kk = spN (kk + 1) := spN_uniq (by omega) hkj.out (by omega) (by omega)
    obtain ⟨al, hal⟩ := isTree_ex kk (L.take (32 * kk)) (by rw [List.length_take, hLl.out]; omega)
    obtain ⟨ls, hls⟩ := isTag_ex (strL sNode) (al ++ bl)
    have hlt1 : ((L.take (32 * kk)) ++ dd).take (32 * kk) = L.take (32 * kk) := by rw [List.take_append_of_le_length (by rw [List.length_take, hLl.out]; omega), List.take_of_length_le (by rw [List.length_take]; omega)]
    have hlt2 : ((L.take (32 * kk)) ++ dd).drop (32 * kk) = dd := by rw [List.drop_append_of_le_length (by rw [List.length_take, hLl.out]; omega), List.drop_of_length_le (by rw [List.length_take]; omega)]; rfl
    have hfl : ((L.take (32 * kk)) ++ dd).length = 32 * (kk + 1) := by rw [List.length_append, List.length_take, hLl.out, HDL.out]; omega
    have hone : IsTree 1 dd bl := .one dd bl HDL.out HBL.out
    have HLT : Hid (IsTree (kk + 1) ((L.take (32 * kk)) ++ dd) ls) := Lib.hid (.node (kk + 1) kk _ al bl ls (by omega) hsp hfl (by rw [hlt1]; exact hal) (by rw [hlt2, Nat.add_sub_cancel_left]; exact hone) hls)
    have HPT : Hid (IsPath kk (kk + 1) ((L.take (32 * kk)) ++ dd) 1 al) := Lib.hid (.right kk (kk + 1) kk 0 _ [] al (by omega) hsp (by omega) (by omega) (by rw [Nat.sub_self, hlt2, Nat.add_sub_cancel_left]; exact .done dd) (by rw [hlt1]; exact hal))
    have HFL := Lib.hid hfl
    have HAL := Lib.hid hal
    have EQ := eqDig_same ls hls.len
    have EQA := eqDig_same al hal.len
    obtain ⟨ts, hts, hss⟩ := hls
    have HTS := Lib.hid hts
    have HSS := Lib.hid hss
    obtain ⟨fs, hfs⟩ : ∃ fs, (L.take (32 * kk)) ++ dd = fs := ⟨_, rfl⟩
    rw [hfs] at HLT HPT HFL
    have HFS := Lib.hid hfs
    have HFR : Hid (∀ z ∈ fs, 0 ≤ z ∧ z ≤ 255) := Lib.hid (by rw [← hfs]; exact rng_append (fun z hz => hLr.out z (List.mem_of_mem_take hz)) HDR.out)
    clear hts hss hlt1 hlt2 hfl hone hal hsp hfs
    have hbk : ¬ (lcap = kk ∧ False) := by simp
    have s3 : (kk : Int) ≤ (lcap : Int) := by omega
    have s4 : (kk : Int) ≤ (n : Int) := by omega
    go_upto_region 7 with fail
    go_cut [7, 8] (fun s7 s8 wx => ∃ x y, s7 = .pointer (some ⟨x, 0, none⟩) ∧ s8 = .pointer (some ⟨y, 0, none⟩) ∧ Hid (Dg wx x al ∧ Dg wx y bl ∧ Ext wr wx))
    case first =>
      refine wp_region_any (by kernel_rfl) ?_
      change wpAny _ _ _ _ _ _ _ (World.drew _)
      generalize hWD : wr.drew = W0
      have E8 := Lib.hid (show Ext wr W0 by rw [← hWD]; exact (Below.refl _ _).drew)
      have D8 := Lib.hid (show Dg W0 db dd by rw [← hWD]; exact RD.out)
      have L8 := Lib.hid (show BytesAt W0 lb 0 L by rw [← hWD]; exact RL.out)
      have B8 := Lib.hid (show Below w.heap.size w W0 by rw [← hWD]; exact RB.out.drew)
      have hl8 : lb < W0.heap.size := by rw [← hWD]; exact hlt
      clear hWD
      refine region_E [9] ?_
      refine anyU_takeD (i := 0) (v := .slice (some ⟨lb, 0, none⟩) n lcap) 22 rfl rfl (by kernel_rfl) (by kernel_rfl) (by kernel_rfl) (fun _ _ _ h => h) (by kernel_rfl) (Ext.stable _) (fun _ h => h) (yieldsU_val rfl (fun u hu => by rfl)) ?_
      refine anyU_takeD (i := 1) (v := .int .i64 kk) 23 rfl rfl (by kernel_rfl) (by kernel_rfl) (by kernel_rfl) (fun _ _ _ h => h) (by kernel_rfl) (Ext.stable _) (fun _ h => h) (yieldsU_val rfl (fun u hu => by rfl)) ?_
      refine anyU_takeD (i := 2) (v := .slice (some ⟨lb, 0, none⟩) kk lcap) 24 rfl rfl (by kernel_rfl) (by kernel_rfl) (by kernel_rfl) (fun _ _ _ h => h) (by kernel_rfl) (Ext.stable _) (fun _ h => h) (yieldsU_val rfl (fun u hu => by go_simp)) ?_
      refine anyU_takeD (i := 3) (v := .agg (bv al).toArray) 25 rfl rfl (by kernel_rfl) (by kernel_rfl) (by kernel_rfl) (fun _ _ _ h => h) (by kernel_rfl) (Ext.stable _) (fun _ h => h) (yieldsU_call rfl 19 _ _ rfl #[.slice (some ⟨lb, 0, none⟩) kk lcap] (by simp [Act.eval, Act.put]) (fun u => by go_simp) (fun u hu => tree_any kk _ al HAL.out (some ⟨lb, 0, none⟩) lcap u (Lib.hid ⟨by rw [List.length_take, hLl.out]; omega, by omega, hl4, .inr ⟨lb, 0, rfl, Nat.lt_of_lt_of_le hl8 hu.size, (L8.out.below hu hl8).take _⟩⟩) (Lib.hid fun z hz => hLr.out z (List.mem_of_mem_take hz)) (by omega) (Lib.hid (hk.out.below (B8.out.trans (hu.mono B8.out.size)))))) ?_
      refine anyU_takeD (i := 4) (v := .agg (bv dd).toArray) 26 rfl rfl (by kernel_rfl) (by kernel_rfl) (by kernel_rfl) (fun _ _ _ h => h) (by kernel_rfl) (Ext.stable _) (fun _ h => h) (yieldsU_of_C (yields_loadD rfl _ rfl db rfl dd HDL.out (fun u hu => D8.out.bel hu))) ?_
      have EW : Hid (Ext W0 W0) := Lib.hid (Ext.refl W0)
      refine anyU_three 5 7 8 5 _ _ _ rfl rfl rfl rfl rfl rfl (by kernel_rfl) ?u5x ?u7x ?u8x
      case u5x =>
        intro w9 h
        refine list_build1 (by rfl) (.tmp 26) rfl (bv dd) rfl (by rw [bv_len]; exact HDL.out) ?_
        change ∃ C' : World → Prop, _ ∧ _ ∧ _ ∧ anyU _ _ _ _ _ _ 5 _ _ _
        generalize hA : World.alloc _ _ = W
        have F5 := Lib.hid (show Dg W w9.heap.size dd by rw [← hA]; exact Dg.box w9 HDL.out)
        replace EW := Lib.hid (show Ext W0 W by rw [← hA]; exact Ext.alloc (Ext.trans EW.out h) _)
        clear hA h
        obtain ⟨b5, hb_⟩ : ∃ b, w9.heap.size = b := ⟨_, rfl⟩
        rw [hb_] at F5   ⊢
        clear hb_
        refine anchor EW.out ?_
        refine anyU_three 6 7 8 4 _ _ _ rfl rfl rfl rfl rfl rfl (by kernel_rfl) ?u6_5x ?u7_5x ?u8_5x
        case u6_5x =>
          intro w9 h
          (try simp only [Act.put])
          go_wp2_with fail
          have F5' := F5.out.bel h
          refine (tree_any 1 dd bl (.one dd bl HDL.out HBL.out) (some ⟨b5, 0, none⟩) 1 w9 (Lib.hid ⟨by rw [HDL.out], by omega, by decide, .inr ⟨b5, 0, rfl, F5'.lt, F5'.bytes⟩⟩) HDR (by omega) (Lib.hid (hk.out.below (B8.out.trans ((Ext.trans EW.out h).mono B8.out.size))))).mono ?_
          rintro e W ⟨rfl, hb9⟩
          clear F5'
          replace EW := Lib.hid (show Ext W0 W from Ext.trans (Ext.trans EW.out h) hb9)
          clear h hb9 F5
          go_wp2_with fail
          change ∃ C' : World → Prop, _ ∧ _ ∧ _ ∧ anyU _ _ _ _ _ _ 4 _ _ _
          refine anchor EW.out ?_
          refine anyU_two 7 8 3 _ _ rfl rfl rfl rfl (by kernel_rfl) ?u7_5_6x ?u8_5_6x
          case u7_5_6x =>
            intro w9 h
            go_wp2_with fail
            change ∃ C' : World → Prop, _ ∧ _ ∧ _ ∧ anyU _ _ _ _ _ _ 3 _ _ _
            generalize hA : World.alloc _ _ = W
            have F7 := Lib.hid (show Dg W w9.heap.size zs by rw [← hA, ← HZS.out]; exact Dg.new w9)
            have lo7 : W0.heap.size ≤ w9.heap.size := (Ext.trans EW.out h).size
            replace EW := Lib.hid (show Ext W0 W by rw [← hA]; exact Ext.alloc (Ext.trans EW.out h) _)
            clear hA h
            obtain ⟨b7, hb_⟩ : ∃ b, w9.heap.size = b := ⟨_, rfl⟩
            rw [hb_] at F7 lo7  ⊢
            clear hb_
            refine anchor EW.out ?_
            refine anyU_one 8 2 _ rfl rfl (by kernel_rfl) ?_
            intro w9 h
            go_wp2_with fail
            change ∃ C' : World → Prop, _ ∧ _ ∧ _ ∧ anyU _ _ _ _ _ _ 2 _ _ _
            generalize hA : World.alloc _ _ = W
            have F8 := Lib.hid (show Dg W w9.heap.size zs by rw [← hA, ← HZS.out]; exact Dg.new w9)
            have lo8 : W0.heap.size ≤ w9.heap.size := (Ext.trans EW.out h).size
            have ne78 : b7 < w9.heap.size := Nat.lt_of_lt_of_le F7.out.lt h.size
            replace EW := Lib.hid (show Ext W0 W by rw [← hA]; exact Ext.alloc (Ext.trans EW.out h) _)
            replace F7 := Lib.hid (show Dg W b7 zs by rw [← hA]; exact (F7.out.bel h).alloc _)
            clear hA h
            obtain ⟨b8, hb_⟩ : ∃ b, w9.heap.size = b := ⟨_, rfl⟩
            rw [hb_] at F8 lo8 ne78 ⊢
            clear hb_
            refine anchor EW.out ?_
            refine anyU_tail 9 [10] rfl rfl (by decide) (by kernel_rfl) ?_
            intro w9 h
            simp only [Act.put, List.filterMap_cons, List.filterMap_nil, List.getElem?_cons_succ, List.getElem?_cons_zero]
            refine list_storeD rfl (.tmp 7) (.tmp 25) rfl b7 rfl al rfl HAL.out.len _ (F7.out.bel h) ?_
            intro wf df kf
            refine list_storeD rfl (.tmp 8) (.tmp 28) rfl b8 rfl bl rfl HBLl.out _ ((F8.out.bel h).wrote kf (by omega)) ?_
            intro wg dg kg
            (try simp only [Act.put])
            go_wp2_with fail
            go_meet
            exact ⟨b7, b8, rfl, rfl, Lib.hid ⟨df.wrote kg (by omega), dg, Ext.trans E8.out (Below.trans (Ext.trans EW.out h) ((kf.below lo7).trans (kg.below lo8)))⟩⟩
          case u8_5_6x =>
            intro w9 h
            go_wp2_with fail
            change ∃ C' : World → Prop, _ ∧ _ ∧ _ ∧ anyU _ _ _ _ _ _ 3 _ _ _
            generalize hA : World.alloc _ _ = W
            have F8 := Lib.hid (show Dg W w9.heap.size zs by rw [← hA, ← HZS.out]; exact Dg.new w9)
            have lo8 : W0.heap.size ≤ w9.heap.size := (Ext.trans EW.out h).size
            replace EW := Lib.hid (show Ext W0 W by rw [← hA]; exact Ext.alloc (Ext.trans EW.out h) _)
            clear hA h
            obtain ⟨b8, hb_⟩ : ∃ b, w9.heap.size = b := ⟨_, rfl⟩
            rw [hb_] at F8 lo8  ⊢
            clear hb_
            refine anchor EW.out ?_
            refine anyU_one 7 2 _ rfl rfl (by kernel_rfl) ?_
            intro w9 h
            go_wp2_with fail
            change ∃ C' : World → Prop, _ ∧ _ ∧ _ ∧ anyU _ _ _ _ _ _ 2 _ _ _
            generalize hA : World.alloc _ _ = W
            have F7 := Lib.hid (show Dg W w9.heap.size zs by rw [← hA, ← HZS.out]; exact Dg.new w9)
            have lo7 : W0.heap.size ≤ w9.heap.size := (Ext.trans EW.out h).size
            have ne78 : b8 < w9.heap.size := Nat.lt_of_lt_of_le F8.out.lt h.size
            replace EW := Lib.hid (show Ext W0 W by rw [← hA]; exact Ext.alloc (Ext.trans EW.out h) _)
            replace F8 := Lib.hid (show Dg W b8 zs by rw [← hA]; exact (F8.out.bel h).alloc _)
            clear hA h
            obtain ⟨b7, hb_⟩ : ∃ b, w9.heap.size = b := ⟨_, rfl⟩
            rw [hb_] at F7 lo7 ne78 ⊢
            clear hb_
            refine anchor EW.out ?_
            refine anyU_tail 9 [10] rfl rfl (by decide) (by kernel_rfl) ?_
            intro w9 h
            simp only [Act.put, List.filterMap_cons, List.filterMap_nil, List.getElem?_cons_succ, List.getElem?_cons_zero]
            refine list_storeD rfl (.tmp 7) (.tmp 25) rfl b7 rfl al rfl HAL.out.len _ (F7.out.bel h) ?_
            intro wf df kf
            refine list_storeD rfl (.tmp 8) (.tmp 28) rfl b8 rfl bl rfl HBLl.out _ ((F8.out.bel h).wrote kf (by omega)) ?_
            intro wg dg kg
            (try simp only [Act.put])
            go_wp2_with fail
            go_meet
            exact ⟨b7, b8, rfl, rfl, Lib.hid ⟨df.wrote kg (by omega), dg, Ext.trans E8.out (Below.trans (Ext.trans EW.out h) ((kf.below lo7).trans (kg.below lo8)))⟩⟩
        case u7_5x =>
          intro w9 h
          go_wp2_with fail
          change ∃ C' : World → Prop, _ ∧ _ ∧ _ ∧ anyU _ _ _ _ _ _ 4 _ _ _
          generalize hA : World.alloc _ _ = W
          have F7 := Lib.hid (show Dg W w9.heap.size zs by rw [← hA, ← HZS.out]; exact Dg.new w9)
          have lo7 : W0.heap.size ≤ w9.heap.size := (Ext.trans EW.out h).size
          replace EW := Lib.hid (show Ext W0 W by rw [← hA]; exact Ext.alloc (Ext.trans EW.out h) _)
          replace F5 := Lib.hid (show Dg W b5 dd by rw [← hA]; exact (F5.out.bel h).alloc _)
          clear hA h
          obtain ⟨b7, hb_⟩ : ∃ b, w9.heap.size = b := ⟨_, rfl⟩
          rw [hb_] at F7 lo7  ⊢
          clear hb_
          refine anchor EW.out ?_
          refine anyU_two 6 8 3 _ _ rfl rfl rfl rfl (by kernel_rfl) ?u6_5_7x ?u8_5_7x
          case u6_5_7x =>
            intro w9 h
            (try simp only [Act.put])
            go_wp2_with fail
            have F5' := F5.out.bel h
            refine (tree_any 1 dd bl (.one dd bl HDL.out HBL.out) (some ⟨b5, 0, none⟩) 1 w9 (Lib.hid ⟨by rw [HDL.out], by omega, by decide, .inr ⟨b5, 0, rfl, F5'.lt, F5'.bytes⟩⟩) HDR (by omega) (Lib.hid (hk.out.below (B8.out.trans ((Ext.trans EW.out h).mono B8.out.size))))).mono ?_
            rintro e W ⟨rfl, hb9⟩
            clear F5'
            replace EW := Lib.hid (show Ext W0 W from Ext.trans (Ext.trans EW.out h) hb9)
            replace F7 := Lib.hid (show Dg W b7 zs from (F7.out.bel h).bel hb9)
            clear h hb9 F5
            go_wp2_with fail
            change ∃ C' : World → Prop, _ ∧ _ ∧ _ ∧ anyU _ _ _ _ _ _ 3 _ _ _
            refine anchor EW.out ?_
            refine anyU_one 8 2 _ rfl rfl (by kernel_rfl) ?_
            intro w9 h
            go_wp2_with fail
            change ∃ C' : World → Prop, _ ∧ _ ∧ _ ∧ anyU _ _ _ _ _ _ 2 _ _ _
            generalize hA : World.alloc _ _ = W
            have F8 := Lib.hid (show Dg W w9.heap.size zs by rw [← hA, ← HZS.out]; exact Dg.new w9)
            have lo8 : W0.heap.size ≤ w9.heap.size := (Ext.trans EW.out h).size
            have ne78 : b7 < w9.heap.size := Nat.lt_of_lt_of_le F7.out.lt h.size
            replace EW := Lib.hid (show Ext W0 W by rw [← hA]; exact Ext.alloc (Ext.trans EW.out h) _)
            replace F7 := Lib.hid (show Dg W b7 zs by rw [← hA]; exact (F7.out.bel h).alloc _)
            clear hA h
            obtain ⟨b8, hb_⟩ : ∃ b, w9.heap.size = b := ⟨_, rfl⟩
            rw [hb_] at F8 lo8 ne78 ⊢
            clear hb_
            refine anchor EW.out ?_
            refine anyU_tail 9 [10] rfl rfl (by decide) (by kernel_rfl) ?_
            intro w9 h
            simp only [Act.put, List.filterMap_cons, List.filterMap_nil, List.getElem?_cons_succ, List.getElem?_cons_zero]
            refine list_storeD rfl (.tmp 7) (.tmp 25) rfl b7 rfl al rfl HAL.out.len _ (F7.out.bel h) ?_
            intro wf df kf
            refine list_storeD rfl (.tmp 8) (.tmp 28) rfl b8 rfl bl rfl HBLl.out _ ((F8.out.bel h).wrote kf (by omega)) ?_
            intro wg dg kg
            (try simp only [Act.put])
            go_wp2_with fail
            go_meet
            exact ⟨b7, b8, rfl, rfl, Lib.hid ⟨df.wrote kg (by omega), dg, Ext.trans E8.out (Below.trans (Ext.trans EW.out h) ((kf.below lo7).trans (kg.below lo8)))⟩⟩
          case u8_5_7x =>
            intro w9 h
            go_wp2_with fail
            change ∃ C' : World → Prop, _ ∧ _ ∧ _ ∧ anyU _ _ _ _ _ _ 3 _ _ _
            generalize hA : World.alloc _ _ = W
            have F8 := Lib.hid (show Dg W w9.heap.size zs by rw [← hA, ← HZS.out]; exact Dg.new w9)
            have lo8 : W0.heap.size ≤ w9.heap.size := (Ext.trans EW.out h).size
            have ne78 : b7 < w9.heap.size := Nat.lt_of_lt_of_le F7.out.lt h.size
            replace EW := Lib.hid (show Ext W0 W by rw [← hA]; exact Ext.alloc (Ext.trans EW.out h) _)
            replace F5 := Lib.hid (show Dg W b5 dd by rw [← hA]; exact (F5.out.bel h).alloc _)
            replace F7 := Lib.hid (show Dg W b7 zs by rw [← hA]; exact (F7.out.bel h).alloc _)
            clear hA h
            obtain ⟨b8, hb_⟩ : ∃ b, w9.heap.size = b := ⟨_, rfl⟩
            rw [hb_] at F8 lo8 ne78 ⊢
            clear hb_
            refine anchor EW.out ?_
            refine anyU_one 6 2 _ rfl rfl (by kernel_rfl) ?_
            intro w9 h
            (try simp only [Act.put])
            go_wp2_with fail
            have F5' := F5.out.bel h
            refine (tree_any 1 dd bl (.one dd bl HDL.out HBL.out) (some ⟨b5, 0, none⟩) 1 w9 (Lib.hid ⟨by rw [HDL.out], by omega, by decide, .inr ⟨b5, 0, rfl, F5'.lt, F5'.bytes⟩⟩) HDR (by omega) (Lib.hid (hk.out.below (B8.out.trans ((Ext.trans EW.out h).mono B8.out.size))))).mono ?_
            rintro e W ⟨rfl, hb9⟩
            clear F5'
            replace EW := Lib.hid (show Ext W0 W from Ext.trans (Ext.trans EW.out h) hb9)
            replace F7 := Lib.hid (show Dg W b7 zs from (F7.out.bel h).bel hb9)
            replace F8 := Lib.hid (show Dg W b8 zs from (F8.out.bel h).bel hb9)
            clear h hb9 F5
            go_wp2_with fail
            change ∃ C' : World → Prop, _ ∧ _ ∧ _ ∧ anyU _ _ _ _ _ _ 2 _ _ _
            refine anchor EW.out ?_
            refine anyU_tail 9 [10] rfl rfl (by decide) (by kernel_rfl) ?_
            intro w9 h
            simp only [Act.put, List.filterMap_cons, List.filterMap_nil, List.getElem?_cons_succ, List.getElem?_cons_zero]
            refine list_storeD rfl (.tmp 7) (.tmp 25) rfl b7 rfl al rfl HAL.out.len _ (F7.out.bel h) ?_
            intro wf df kf
            refine list_storeD rfl (.tmp 8) (.tmp 28) rfl b8 rfl bl rfl HBLl.out _ ((F8.out.bel h).wrote kf (by omega)) ?_
            intro wg dg kg
            (try simp only [Act.put])
            go_wp2_with fail
            go_meet
            exact ⟨b7, b8, rfl, rfl, Lib.hid ⟨df.wrote kg (by omega), dg, Ext.trans E8.out (Below.trans (Ext.trans EW.out h) ((kf.below lo7).trans (kg.below lo8)))⟩⟩
        case u8_5x =>
          intro w9 h
          go_wp2_with fail
          change ∃ C' : World → Prop, _ ∧ _ ∧ _ ∧ anyU _ _ _ _ _ _ 4 _ _ _
          generalize hA : World.alloc _ _ = W
          have F8 := Lib.hid (show Dg W w9.heap.size zs by rw [← hA, ← HZS.out]; exact Dg.new w9)
          have lo8 : W0.heap.size ≤ w9.heap.size := (Ext.trans EW.out h).size
          replace EW := Lib.hid (show Ext W0 W by rw [← hA]; exact Ext.alloc (Ext.trans EW.out h) _)
          replace F5 := Lib.hid (show Dg W b5 dd by rw [← hA]; exact (F5.out.bel h).alloc _)
          clear hA h
          obtain ⟨b8, hb_⟩ : ∃ b, w9.heap.size = b := ⟨_, rfl⟩
          rw [hb_] at F8 lo8  ⊢
          clear hb_
          refine anchor EW.out ?_
          refine anyU_two 6 7 3 _ _ rfl rfl rfl rfl (by kernel_rfl) ?u6_5_8x ?u7_5_8x
          case u6_5_8x =>
            intro w9 h
            (try simp only [Act.put])
            go_wp2_with fail
            have F5' := F5.out.bel h
            refine (tree_any 1 dd bl (.one dd bl HDL.out HBL.out) (some ⟨b5, 0, none⟩) 1 w9 (Lib.hid ⟨by rw [HDL.out], by omega, by decide, .inr ⟨b5, 0, rfl, F5'.lt, F5'.bytes⟩⟩) HDR (by omega) (Lib.hid (hk.out.below (B8.out.trans ((Ext.trans EW.out h).mono B8.out.size))))).mono ?_
            rintro e W ⟨rfl, hb9⟩
            clear F5'
            replace EW := Lib.hid (show Ext W0 W from Ext.trans (Ext.trans EW.out h) hb9)
            replace F8 := Lib.hid (show Dg W b8 zs from (F8.out.bel h).bel hb9)
            clear h hb9 F5
            go_wp2_with fail
            change ∃ C' : World → Prop, _ ∧ _ ∧ _ ∧ anyU _ _ _ _ _ _ 3 _ _ _
            refine anchor EW.out ?_
            refine anyU_one 7 2 _ rfl rfl (by kernel_rfl) ?_
            intro w9 h
            go_wp2_with fail
            change ∃ C' : World → Prop, _ ∧ _ ∧ _ ∧ anyU _ _ _ _ _ _ 2 _ _ _
            generalize hA : World.alloc _ _ = W
            have F7 := Lib.hid (show Dg W w9.heap.size zs by rw [← hA, ← HZS.out]; exact Dg.new w9)
            have lo7 : W0.heap.size ≤ w9.heap.size := (Ext.trans EW.out h).size
            have ne78 : b8 < w9.heap.size := Nat.lt_of_lt_of_le F8.out.lt h.size
            replace EW := Lib.hid (show Ext W0 W by rw [← hA]; exact Ext.alloc (Ext.trans EW.out h) _)
            replace F8 := Lib.hid (show Dg W b8 zs by rw [← hA]; exact (F8.out.bel h).alloc _)
            clear hA h
            obtain ⟨b7, hb_⟩ : ∃ b, w9.heap.size = b := ⟨_, rfl⟩
            rw [hb_] at F7 lo7 ne78 ⊢
            clear hb_
            refine anchor EW.out ?_
            refine anyU_tail 9 [10] rfl rfl (by decide) (by kernel_rfl) ?_
            intro w9 h
            simp only [Act.put, List.filterMap_cons, List.filterMap_nil, List.getElem?_cons_succ, List.getElem?_cons_zero]
            refine list_storeD rfl (.tmp 7) (.tmp 25) rfl b7 rfl al rfl HAL.out.len _ (F7.out.bel h) ?_
            intro wf df kf
            refine list_storeD rfl (.tmp 8) (.tmp 28) rfl b8 rfl bl rfl HBLl.out _ ((F8.out.bel h).wrote kf (by omega)) ?_
            intro wg dg kg
            (try simp only [Act.put])
            go_wp2_with fail
            go_meet
            exact ⟨b7, b8, rfl, rfl, Lib.hid ⟨df.wrote kg (by omega), dg, Ext.trans E8.out (Below.trans (Ext.trans EW.out h) ((kf.below lo7).trans (kg.below lo8)))⟩⟩
          case u7_5_8x =>
            intro w9 h
            go_wp2_with fail
            change ∃ C' : World → Prop, _ ∧ _ ∧ _ ∧ anyU _ _ _ _ _ _ 3 _ _ _
            generalize hA : World.alloc _ _ = W
            have F7 := Lib.hid (show Dg W w9.heap.size zs by rw [← hA, ← HZS.out]; exact Dg.new w9)
            have lo7 : W0.heap.size ≤ w9.heap.size := (Ext.trans EW.out h).size
            have ne78 : b8 < w9.heap.size := Nat.lt_of_lt_of_le F8.out.lt h.size
            replace EW := Lib.hid (show Ext W0 W by rw [← hA]; exact Ext.alloc (Ext.trans EW.out h) _)
            replace F5 := Lib.hid (show Dg W b5 dd by rw [← hA]; exact (F5.out.bel h).alloc _)
            replace F8 := Lib.hid (show Dg W b8 zs by rw [← hA]; exact (F8.out.bel h).alloc _)
            clear hA h
            obtain ⟨b7, hb_⟩ : ∃ b, w9.heap.size = b := ⟨_, rfl⟩
            rw [hb_] at F7 lo7 ne78 ⊢
            clear hb_
            refine anchor EW.out ?_
            refine anyU_one 6 2 _ rfl rfl (by kernel_rfl) ?_
            intro w9 h
            (try simp only [Act.put])
            go_wp2_with fail
            have F5' := F5.out.bel h
            refine (tree_any 1 dd bl (.one dd bl HDL.out HBL.out) (some ⟨b5, 0, none⟩) 1 w9 (Lib.hid ⟨by rw [HDL.out], by omega, by decide, .inr ⟨b5, 0, rfl, F5'.lt, F5'.bytes⟩⟩) HDR (by omega) (Lib.hid (hk.out.below (B8.out.trans ((Ext.trans EW.out h).mono B8.out.size))))).mono ?_
            rintro e W ⟨rfl, hb9⟩
            clear F5'
            replace EW := Lib.hid (show Ext W0 W from Ext.trans (Ext.trans EW.out h) hb9)
            replace F7 := Lib.hid (show Dg W b7 zs from (F7.out.bel h).bel hb9)
            replace F8 := Lib.hid (show Dg W b8 zs from (F8.out.bel h).bel hb9)
            clear h hb9 F5
            go_wp2_with fail
            change ∃ C' : World → Prop, _ ∧ _ ∧ _ ∧ anyU _ _ _ _ _ _ 2 _ _ _
            refine anchor EW.out ?_
            refine anyU_tail 9 [10] rfl rfl (by decide) (by kernel_rfl) ?_
            intro w9 h
            simp only [Act.put, List.filterMap_cons, List.filterMap_nil, List.getElem?_cons_succ, List.getElem?_cons_zero]
            refine list_storeD rfl (.tmp 7) (.tmp 25) rfl b7 rfl al rfl HAL.out.len _ (F7.out.bel h) ?_
            intro wf df kf
            refine list_storeD rfl (.tmp 8) (.tmp 28) rfl b8 rfl bl rfl HBLl.out _ ((F8.out.bel h).wrote kf (by omega)) ?_
            intro wg dg kg
            (try simp only [Act.put])
            go_wp2_with fail
            go_meet
            exact ⟨b7, b8, rfl, rfl, Lib.hid ⟨df.wrote kg (by omega), dg, Ext.trans E8.out (Below.trans (Ext.trans EW.out h) ((kf.below lo7).trans (kg.below lo8)))⟩⟩
      case u7x =>
        intro w9 h
        go_wp2_with fail
        change ∃ C' : World → Prop, _ ∧ _ ∧ _ ∧ anyU _ _ _ _ _ _ 5 _ _ _
        generalize hA : World.alloc _ _ = W
        have F7 := Lib.hid (show Dg W w9.heap.size zs by rw [← hA, ← HZS.out]; exact Dg.new w9)
        have lo7 : W0.heap.size ≤ w9.heap.size := (Ext.trans EW.out h).size
        replace EW := Lib.hid (show Ext W0 W by rw [← hA]; exact Ext.alloc (Ext.trans EW.out h) _)
        clear hA h
        obtain ⟨b7, hb_⟩ : ∃ b, w9.heap.size = b := ⟨_, rfl⟩
        rw [hb_] at F7 lo7  ⊢
        clear hb_
        refine anchor EW.out ?_
        refine anyU_two 5 8 4 _ _ rfl rfl rfl rfl (by kernel_rfl) ?u5_7x ?u8_7x
        case u5_7x =>
          intro w9 h
          refine list_build1 (by rfl) (.tmp 26) rfl (bv dd) rfl (by rw [bv_len]; exact HDL.out) ?_
          change ∃ C' : World → Prop, _ ∧ _ ∧ _ ∧ anyU _ _ _ _ _ _ 4 _ _ _
          generalize hA : World.alloc _ _ = W
          have F5 := Lib.hid (show Dg W w9.heap.size dd by rw [← hA]; exact Dg.box w9 HDL.out)
          replace EW := Lib.hid (show Ext W0 W by rw [← hA]; exact Ext.alloc (Ext.trans EW.out h) _)
          replace F7 := Lib.hid (show Dg W b7 zs by rw [← hA]; exact (F7.out.bel h).alloc _)
          clear hA h
          obtain ⟨b5, hb_⟩ : ∃ b, w9.heap.size = b := ⟨_, rfl⟩
          rw [hb_] at F5   ⊢
          clear hb_
          refine anchor EW.out ?_
          refine anyU_two 6 8 3 _ _ rfl rfl rfl rfl (by kernel_rfl) ?u6_5_7x ?u8_5_7x
          case u6_5_7x =>
            intro w9 h
            (try simp only [Act.put])
            go_wp2_with fail
            have F5' := F5.out.bel h
            refine (tree_any 1 dd bl (.one dd bl HDL.out HBL.out) (some ⟨b5, 0, none⟩) 1 w9 (Lib.hid ⟨by rw [HDL.out], by omega, by decide, .inr ⟨b5, 0, rfl, F5'.lt, F5'.bytes⟩⟩) HDR (by omega) (Lib.hid (hk.out.below (B8.out.trans ((Ext.trans EW.out h).mono B8.out.size))))).mono ?_
            rintro e W ⟨rfl, hb9⟩
            clear F5'
            replace EW := Lib.hid (show Ext W0 W from Ext.trans (Ext.trans EW.out h) hb9)
            replace F7 := Lib.hid (show Dg W b7 zs from (F7.out.bel h).bel hb9)
            clear h hb9 F5
            go_wp2_with fail
            change ∃ C' : World → Prop, _ ∧ _ ∧ _ ∧ anyU _ _ _ _ _ _ 3 _ _ _
            refine anchor EW.out ?_
            refine anyU_one 8 2 _ rfl rfl (by kernel_rfl) ?_
            intro w9 h
            go_wp2_with fail
            change ∃ C' : World → Prop, _ ∧ _ ∧ _ ∧ anyU _ _ _ _ _ _ 2 _ _ _
            generalize hA : World.alloc _ _ = W
            have F8 := Lib.hid (show Dg W w9.heap.size zs by rw [← hA, ← HZS.out]; exact Dg.new w9)
            have lo8 : W0.heap.size ≤ w9.heap.size := (Ext.trans EW.out h).size
            have ne78 : b7 < w9.heap.size := Nat.lt_of_lt_of_le F7.out.lt h.size
            replace EW := Lib.hid (show Ext W0 W by rw [← hA]; exact Ext.alloc (Ext.trans EW.out h) _)
            replace F7 := Lib.hid (show Dg W b7 zs by rw [← hA]; exact (F7.out.bel h).alloc _)
            clear hA h
            obtain ⟨b8, hb_⟩ : ∃ b, w9.heap.size = b := ⟨_, rfl⟩
            rw [hb_] at F8 lo8 ne78 ⊢
            clear hb_
            refine anchor EW.out ?_
            refine anyU_tail 9 [10] rfl rfl (by decide) (by kernel_rfl) ?_
            intro w9 h
            simp only [Act.put, List.filterMap_cons, List.filterMap_nil, List.getElem?_cons_succ, List.getElem?_cons_zero]
            refine list_storeD rfl (.tmp 7) (.tmp 25) rfl b7 rfl al rfl HAL.out.len _ (F7.out.bel h) ?_
            intro wf df kf
            refine list_storeD rfl (.tmp 8) (.tmp 28) rfl b8 rfl bl rfl HBLl.out _ ((F8.out.bel h).wrote kf (by omega)) ?_
            intro wg dg kg
            (try simp only [Act.put])
            go_wp2_with fail
            go_meet
            exact ⟨b7, b8, rfl, rfl, Lib.hid ⟨df.wrote kg (by omega), dg, Ext.trans E8.out (Below.trans (Ext.trans EW.out h) ((kf.below lo7).trans (kg.below lo8)))⟩⟩
          case u8_5_7x =>
            intro w9 h
            go_wp2_with fail
            change ∃ C' : World → Prop, _ ∧ _ ∧ _ ∧ anyU _ _ _ _ _ _ 3 _ _ _
            generalize hA : World.alloc _ _ = W
            have F8 := Lib.hid (show Dg W w9.heap.size zs by rw [← hA, ← HZS.out]; exact Dg.new w9)
            have lo8 : W0.heap.size ≤ w9.heap.size := (Ext.trans EW.out h).size
            have ne78 : b7 < w9.heap.size := Nat.lt_of_lt_of_le F7.out.lt h.size
            replace EW := Lib.hid (show Ext W0 W by rw [← hA]; exact Ext.alloc (Ext.trans EW.out h) _)
            replace F5 := Lib.hid (show Dg W b5 dd by rw [← hA]; exact (F5.out.bel h).alloc _)
            replace F7 := Lib.hid (show Dg W b7 zs by rw [← hA]; exact (F7.out.bel h).alloc _)
            clear hA h
            obtain ⟨b8, hb_⟩ : ∃ b, w9.heap.size = b := ⟨_, rfl⟩
            rw [hb_] at F8 lo8 ne78 ⊢
            clear hb_
            refine anchor EW.out ?_
            refine anyU_one 6 2 _ rfl rfl (by kernel_rfl) ?_
            intro w9 h
            (try simp only [Act.put])
            go_wp2_with fail
            have F5' := F5.out.bel h
            refine (tree_any 1 dd bl (.one dd bl HDL.out HBL.out) (some ⟨b5, 0, none⟩) 1 w9 (Lib.hid ⟨by rw [HDL.out], by omega, by decide, .inr ⟨b5, 0, rfl, F5'.lt, F5'.bytes⟩⟩) HDR (by omega) (Lib.hid (hk.out.below (B8.out.trans ((Ext.trans EW.out h).mono B8.out.size))))).mono ?_
            rintro e W ⟨rfl, hb9⟩
            clear F5'
            replace EW := Lib.hid (show Ext W0 W from Ext.trans (Ext.trans EW.out h) hb9)
            replace F7 := Lib.hid (show Dg W b7 zs from (F7.out.bel h).bel hb9)
            replace F8 := Lib.hid (show Dg W b8 zs from (F8.out.bel h).bel hb9)
            clear h hb9 F5
            go_wp2_with fail
            change ∃ C' : World → Prop, _ ∧ _ ∧ _ ∧ anyU _ _ _ _ _ _ 2 _ _ _
            refine anchor EW.out ?_
            refine anyU_tail 9 [10] rfl rfl (by decide) (by kernel_rfl) ?_
            intro w9 h
            simp only [Act.put, List.filterMap_cons, List.filterMap_nil, List.getElem?_cons_succ, List.getElem?_cons_zero]
            refine list_storeD rfl (.tmp 7) (.tmp 25) rfl b7 rfl al rfl HAL.out.len _ (F7.out.bel h) ?_
            intro wf df kf
            refine list_storeD rfl (.tmp 8) (.tmp 28) rfl b8 rfl bl rfl HBLl.out _ ((F8.out.bel h).wrote kf (by omega)) ?_
            intro wg dg kg
            (try simp only [Act.put])
            go_wp2_with fail
            go_meet
            exact ⟨b7, b8, rfl, rfl, Lib.hid ⟨df.wrote kg (by omega), dg, Ext.trans E8.out (Below.trans (Ext.trans EW.out h) ((kf.below lo7).trans (kg.below lo8)))⟩⟩
        case u8_7x =>
          intro w9 h
          go_wp2_with fail
          change ∃ C' : World → Prop, _ ∧ _ ∧ _ ∧ anyU _ _ _ _ _ _ 4 _ _ _
          generalize hA : World.alloc _ _ = W
          have F8 := Lib.hid (show Dg W w9.heap.size zs by rw [← hA, ← HZS.out]; exact Dg.new w9)
          have lo8 : W0.heap.size ≤ w9.heap.size := (Ext.trans EW.out h).size
          have ne78 : b7 < w9.heap.size := Nat.lt_of_lt_of_le F7.out.lt h.size
          replace EW := Lib.hid (show Ext W0 W by rw [← hA]; exact Ext.alloc (Ext.trans EW.out h) _)
          replace F7 := Lib.hid (show Dg W b7 zs by rw [← hA]; exact (F7.out.bel h).alloc _)
          clear hA h
          obtain ⟨b8, hb_⟩ : ∃ b, w9.heap.size = b := ⟨_, rfl⟩
          rw [hb_] at F8 lo8 ne78 ⊢
          clear hb_
          refine anchor EW.out ?_
          refine anyU_one 5 3 _ rfl rfl (by kernel_rfl) ?_
          intro w9 h
          refine list_build1 (by rfl) (.tmp 26) rfl (bv dd) rfl (by rw [bv_len]; exact HDL.out) ?_
          change ∃ C' : World → Prop, _ ∧ _ ∧ _ ∧ anyU _ _ _ _ _ _ 3 _ _ _
          generalize hA : World.alloc _ _ = W
          have F5 := Lib.hid (show Dg W w9.heap.size dd by rw [← hA]; exact Dg.box w9 HDL.out)
          replace EW := Lib.hid (show Ext W0 W by rw [← hA]; exact Ext.alloc (Ext.trans EW.out h) _)
          replace F7 := Lib.hid (show Dg W b7 zs by rw [← hA]; exact (F7.out.bel h).alloc _)
          replace F8 := Lib.hid (show Dg W b8 zs by rw [← hA]; exact (F8.out.bel h).alloc _)
          clear hA h
          obtain ⟨b5, hb_⟩ : ∃ b, w9.heap.size = b := ⟨_, rfl⟩
          rw [hb_] at F5   ⊢
          clear hb_
          refine anchor EW.out ?_
          refine anyU_one 6 2 _ rfl rfl (by kernel_rfl) ?_
          intro w9 h
          (try simp only [Act.put])
          go_wp2_with fail
          have F5' := F5.out.bel h
          refine (tree_any 1 dd bl (.one dd bl HDL.out HBL.out) (some ⟨b5, 0, none⟩) 1 w9 (Lib.hid ⟨by rw [HDL.out], by omega, by decide, .inr ⟨b5, 0, rfl, F5'.lt, F5'.bytes⟩⟩) HDR (by omega) (Lib.hid (hk.out.below (B8.out.trans ((Ext.trans EW.out h).mono B8.out.size))))).mono ?_
          rintro e W ⟨rfl, hb9⟩
          clear F5'
          replace EW := Lib.hid (show Ext W0 W from Ext.trans (Ext.trans EW.out h) hb9)
          replace F7 := Lib.hid (show Dg W b7 zs from (F7.out.bel h).bel hb9)
          replace F8 := Lib.hid (show Dg W b8 zs from (F8.out.bel h).bel hb9)
          clear h hb9 F5
          go_wp2_with fail
          change ∃ C' : World → Prop, _ ∧ _ ∧ _ ∧ anyU _ _ _ _ _ _ 2 _ _ _
          refine anchor EW.out ?_
          refine anyU_tail 9 [10] rfl rfl (by decide) (by kernel_rfl) ?_
          intro w9 h
          simp only [Act.put, List.filterMap_cons, List.filterMap_nil, List.getElem?_cons_succ, List.getElem?_cons_zero]
          refine list_storeD rfl (.tmp 7) (.tmp 25) rfl b7 rfl al rfl HAL.out.len _ (F7.out.bel h) ?_
          intro wf df kf
          refine list_storeD rfl (.tmp 8) (.tmp 28) rfl b8 rfl bl rfl HBLl.out _ ((F8.out.bel h).wrote kf (by omega)) ?_
          intro wg dg kg
          (try simp only [Act.put])
          go_wp2_with fail
          go_meet
          exact ⟨b7, b8, rfl, rfl, Lib.hid ⟨df.wrote kg (by omega), dg, Ext.trans E8.out (Below.trans (Ext.trans EW.out h) ((kf.below lo7).trans (kg.below lo8)))⟩⟩
      case u8x =>
        intro w9 h
        go_wp2_with fail
        change ∃ C' : World → Prop, _ ∧ _ ∧ _ ∧ anyU _ _ _ _ _ _ 5 _ _ _
        generalize hA : World.alloc _ _ = W
        have F8 := Lib.hid (show Dg W w9.heap.size zs by rw [← hA, ← HZS.out]; exact Dg.new w9)
        have lo8 : W0.heap.size ≤ w9.heap.size := (Ext.trans EW.out h).size
        replace EW := Lib.hid (show Ext W0 W by rw [← hA]; exact Ext.alloc (Ext.trans EW.out h) _)
        clear hA h
        obtain ⟨b8, hb_⟩ : ∃ b, w9.heap.size = b := ⟨_, rfl⟩
        rw [hb_] at F8 lo8  ⊢
        clear hb_
        refine anchor EW.out ?_
        refine anyU_two 5 7 4 _ _ rfl rfl rfl rfl (by kernel_rfl) ?u5_8x ?u7_8x
        case u5_8x =>
          intro w9 h
          refine list_build1 (by rfl) (.tmp 26) rfl (bv dd) rfl (by rw [bv_len]; exact HDL.out) ?_
          change ∃ C' : World → Prop, _ ∧ _ ∧ _ ∧ anyU _ _ _ _ _ _ 4 _ _ _
          generalize hA : World.alloc _ _ = W
          have F5 := Lib.hid (show Dg W w9.heap.size dd by rw [← hA]; exact Dg.box w9 HDL.out)
          replace EW := Lib.hid (show Ext W0 W by rw [← hA]; exact Ext.alloc (Ext.trans EW.out h) _)
          replace F8 := Lib.hid (show Dg W b8 zs by rw [← hA]; exact (F8.out.bel h).alloc _)
          clear hA h
          obtain ⟨b5, hb_⟩ : ∃ b, w9.heap.size = b := ⟨_, rfl⟩
          rw [hb_] at F5   ⊢
          clear hb_
          refine anchor EW.out ?_
          refine anyU_two 6 7 3 _ _ rfl rfl rfl rfl (by kernel_rfl) ?u6_5_8x ?u7_5_8x
          case u6_5_8x =>
            intro w9 h
            (try simp only [Act.put])
            go_wp2_with fail
            have F5' := F5.out.bel h
            refine (tree_any 1 dd bl (.one dd bl HDL.out HBL.out) (some ⟨b5, 0, none⟩) 1 w9 (Lib.hid ⟨by rw [HDL.out], by omega, by decide, .inr ⟨b5, 0, rfl, F5'.lt, F5'.bytes⟩⟩) HDR (by omega) (Lib.hid (hk.out.below (B8.out.trans ((Ext.trans EW.out h).mono B8.out.size))))).mono ?_
            rintro e W ⟨rfl, hb9⟩
            clear F5'
            replace EW := Lib.hid (show Ext W0 W from Ext.trans (Ext.trans EW.out h) hb9)
            replace F8 := Lib.hid (show Dg W b8 zs from (F8.out.bel h).bel hb9)
            clear h hb9 F5
            go_wp2_with fail
            change ∃ C' : World → Prop, _ ∧ _ ∧ _ ∧ anyU _ _ _ _ _ _ 3 _ _ _
            refine anchor EW.out ?_
            refine anyU_one 7 2 _ rfl rfl (by kernel_rfl) ?_
            intro w9 h
            go_wp2_with fail
            change ∃ C' : World → Prop, _ ∧ _ ∧ _ ∧ anyU _ _ _ _ _ _ 2 _ _ _
            generalize hA : World.alloc _ _ = W
            have F7 := Lib.hid (show Dg W w9.heap.size zs by rw [← hA, ← HZS.out]; exact Dg.new w9)
            have lo7 : W0.heap.size ≤ w9.heap.size := (Ext.trans EW.out h).size
            have ne78 : b8 < w9.heap.size := Nat.lt_of_lt_of_le F8.out.lt h.size
            replace EW := Lib.hid (show Ext W0 W by rw [← hA]; exact Ext.alloc (Ext.trans EW.out h) _)
            replace F8 := Lib.hid (show Dg W b8 zs by rw [← hA]; exact (F8.out.bel h).alloc _)
            clear hA h
            obtain ⟨b7, hb_⟩ : ∃ b, w9.heap.size = b := ⟨_, rfl⟩
            rw [hb_] at F7 lo7 ne78 ⊢
            clear hb_
            refine anchor EW.out ?_
            refine anyU_tail 9 [10] rfl rfl (by decide) (by kernel_rfl) ?_
            intro w9 h
            simp only [Act.put, List.filterMap_cons, List.filterMap_nil, List.getElem?_cons_succ, List.getElem?_cons_zero]
            refine list_storeD rfl (.tmp 7) (.tmp 25) rfl b7 rfl al rfl HAL.out.len _ (F7.out.bel h) ?_
            intro wf df kf
            refine list_storeD rfl (.tmp 8) (.tmp 28) rfl b8 rfl bl rfl HBLl.out _ ((F8.out.bel h).wrote kf (by omega)) ?_
            intro wg dg kg
            (try simp only [Act.put])
            go_wp2_with fail
            go_meet
            exact ⟨b7, b8, rfl, rfl, Lib.hid ⟨df.wrote kg (by omega), dg, Ext.trans E8.out (Below.trans (Ext.trans EW.out h) ((kf.below lo7).trans (kg.below lo8)))⟩⟩
          case u7_5_8x =>
            intro w9 h
            go_wp2_with fail
            change ∃ C' : World → Prop, _ ∧ _ ∧ _ ∧ anyU _ _ _ _ _ _ 3 _ _ _
            generalize hA : World.alloc _ _ = W
            have F7 := Lib.hid (show Dg W w9.heap.size zs by rw [← hA, ← HZS.out]; exact Dg.new w9)
            have lo7 : W0.heap.size ≤ w9.heap.size := (Ext.trans EW.out h).size
            have ne78 : b8 < w9.heap.size := Nat.lt_of_lt_of_le F8.out.lt h.size
            replace EW := Lib.hid (show Ext W0 W by rw [← hA]; exact Ext.alloc (Ext.trans EW.out h) _)
            replace F5 := Lib.hid (show Dg W b5 dd by rw [← hA]; exact (F5.out.bel h).alloc _)
            replace F8 := Lib.hid (show Dg W b8 zs by rw [← hA]; exact (F8.out.bel h).alloc _)
            clear hA h
            obtain ⟨b7, hb_⟩ : ∃ b, w9.heap.size = b := ⟨_, rfl⟩
            rw [hb_] at F7 lo7 ne78 ⊢
            clear hb_
            refine anchor EW.out ?_
            refine anyU_one 6 2 _ rfl rfl (by kernel_rfl) ?_
            intro w9 h
            (try simp only [Act.put])
            go_wp2_with fail
            have F5' := F5.out.bel h
            refine (tree_any 1 dd bl (.one dd bl HDL.out HBL.out) (some ⟨b5, 0, none⟩) 1 w9 (Lib.hid ⟨by rw [HDL.out], by omega, by decide, .inr ⟨b5, 0, rfl, F5'.lt, F5'.bytes⟩⟩) HDR (by omega) (Lib.hid (hk.out.below (B8.out.trans ((Ext.trans EW.out h).mono B8.out.size))))).mono ?_
            rintro e W ⟨rfl, hb9⟩
            clear F5'
            replace EW := Lib.hid (show Ext W0 W from Ext.trans (Ext.trans EW.out h) hb9)
            replace F7 := Lib.hid (show Dg W b7 zs from (F7.out.bel h).bel hb9)
            replace F8 := Lib.hid (show Dg W b8 zs from (F8.out.bel h).bel hb9)
            clear h hb9 F5
            go_wp2_with fail
            change ∃ C' : World → Prop, _ ∧ _ ∧ _ ∧ anyU _ _ _ _ _ _ 2 _ _ _
            refine anchor EW.out ?_
            refine anyU_tail 9 [10] rfl rfl (by decide) (by kernel_rfl) ?_
            intro w9 h
            simp only [Act.put, List.filterMap_cons, List.filterMap_nil, List.getElem?_cons_succ, List.getElem?_cons_zero]
            refine list_storeD rfl (.tmp 7) (.tmp 25) rfl b7 rfl al rfl HAL.out.len _ (F7.out.bel h) ?_
            intro wf df kf
            refine list_storeD rfl (.tmp 8) (.tmp 28) rfl b8 rfl bl rfl HBLl.out _ ((F8.out.bel h).wrote kf (by omega)) ?_
            intro wg dg kg
            (try simp only [Act.put])
            go_wp2_with fail
            go_meet
            exact ⟨b7, b8, rfl, rfl, Lib.hid ⟨df.wrote kg (by omega), dg, Ext.trans E8.out (Below.trans (Ext.trans EW.out h) ((kf.below lo7).trans (kg.below lo8)))⟩⟩
        case u7_8x =>
          intro w9 h
          go_wp2_with fail
          change ∃ C' : World → Prop, _ ∧ _ ∧ _ ∧ anyU _ _ _ _ _ _ 4 _ _ _
          generalize hA : World.alloc _ _ = W
          have F7 := Lib.hid (show Dg W w9.heap.size zs by rw [← hA, ← HZS.out]; exact Dg.new w9)
          have lo7 : W0.heap.size ≤ w9.heap.size := (Ext.trans EW.out h).size
          have ne78 : b8 < w9.heap.size := Nat.lt_of_lt_of_le F8.out.lt h.size
          replace EW := Lib.hid (show Ext W0 W by rw [← hA]; exact Ext.alloc (Ext.trans EW.out h) _)
          replace F8 := Lib.hid (show Dg W b8 zs by rw [← hA]; exact (F8.out.bel h).alloc _)
          clear hA h
          obtain ⟨b7, hb_⟩ : ∃ b, w9.heap.size = b := ⟨_, rfl⟩
          rw [hb_] at F7 lo7 ne78 ⊢
          clear hb_
          refine anchor EW.out ?_
          refine anyU_one 5 3 _ rfl rfl (by kernel_rfl) ?_
          intro w9 h
          refine list_build1 (by rfl) (.tmp 26) rfl (bv dd) rfl (by rw [bv_len]; exact HDL.out) ?_
          change ∃ C' : World → Prop, _ ∧ _ ∧ _ ∧ anyU _ _ _ _ _ _ 3 _ _ _
          generalize hA : World.alloc _ _ = W
          have F5 := Lib.hid (show Dg W w9.heap.size dd by rw [← hA]; exact Dg.box w9 HDL.out)
          replace EW := Lib.hid (show Ext W0 W by rw [← hA]; exact Ext.alloc (Ext.trans EW.out h) _)
          replace F7 := Lib.hid (show Dg W b7 zs by rw [← hA]; exact (F7.out.bel h).alloc _)
          replace F8 := Lib.hid (show Dg W b8 zs by rw [← hA]; exact (F8.out.bel h).alloc _)
          clear hA h
          obtain ⟨b5, hb_⟩ : ∃ b, w9.heap.size = b := ⟨_, rfl⟩
          rw [hb_] at F5   ⊢
          clear hb_
          refine anchor EW.out ?_
          refine anyU_one 6 2 _ rfl rfl (by kernel_rfl) ?_
          intro w9 h
          (try simp only [Act.put])
          go_wp2_with fail
          have F5' := F5.out.bel h
          refine (tree_any 1 dd bl (.one dd bl HDL.out HBL.out) (some ⟨b5, 0, none⟩) 1 w9 (Lib.hid ⟨by rw [HDL.out], by omega, by decide, .inr ⟨b5, 0, rfl, F5'.lt, F5'.bytes⟩⟩) HDR (by omega) (Lib.hid (hk.out.below (B8.out.trans ((Ext.trans EW.out h).mono B8.out.size))))).mono ?_
          rintro e W ⟨rfl, hb9⟩
          clear F5'
          replace EW := Lib.hid (show Ext W0 W from Ext.trans (Ext.trans EW.out h) hb9)
          replace F7 := Lib.hid (show Dg W b7 zs from (F7.out.bel h).bel hb9)
          replace F8 := Lib.hid (show Dg W b8 zs from (F8.out.bel h).bel hb9)
          clear h hb9 F5
          go_wp2_with fail
          change ∃ C' : World → Prop, _ ∧ _ ∧ _ ∧ anyU _ _ _ _ _ _ 2 _ _ _
          refine anchor EW.out ?_
          refine anyU_tail 9 [10] rfl rfl (by decide) (by kernel_rfl) ?_
          intro w9 h
          simp only [Act.put, List.filterMap_cons, List.filterMap_nil, List.getElem?_cons_succ, List.getElem?_cons_zero]
          refine list_storeD rfl (.tmp 7) (.tmp 25) rfl b7 rfl al rfl HAL.out.len _ (F7.out.bel h) ?_
          intro wf df kf
          refine list_storeD rfl (.tmp 8) (.tmp 28) rfl b8 rfl bl rfl HBLl.out _ ((F8.out.bel h).wrote kf (by omega)) ?_
          intro wg dg kg
          (try simp only [Act.put])
          go_wp2_with fail
          go_meet
          exact ⟨b7, b8, rfl, rfl, Lib.hid ⟨df.wrote kg (by omega), dg, Ext.trans E8.out (Below.trans (Ext.trans EW.out h) ((kf.below lo7).trans (kg.below lo8)))⟩⟩
    case rest =>
    obtain ⟨xb, yb, rfl, rfl, HC⟩ := hcut
    obtain ⟨X1, Y1, E1⟩ := HC.out
    have X7 := Lib.hid X1
    have Y7 := Lib.hid Y1
    have D7 := Lib.hid (RD.out.bel E1)
    have L7 := Lib.hid (RL.out.below E1 hlt)
    have B7 := Lib.hid (RB.out.trans (E1.mono RB.out.size))
    have l7 : lb < wc.heap.size := Nat.lt_of_lt_of_le hlt E1.size
    clear HC X1 Y1 E1 RD RL RB hlt
    obtain ⟨wd, hwd⟩ : ∃ u, wc = u := ⟨_, rfl⟩
    rw [hwd] at X7 Y7 D7 L7 B7 l7 ⊢
    clear hwd
    go_upto_region 8 with fail
    go_cut [9] (fun s9 wx => ∃ q qc, s9 = .slice q ((kk + 1 : Nat)) qc ∧ Hid (SrcD wx q (kk + 1) qc fs ∧ (∀ q', q = some q' → ∃ b off, q' = ⟨b, off, none⟩) ∧ Ext wd wx))
    case first =>
      refine wp_region_any (by kernel_rfl) ?_
      change wpAny _ _ _ _ _ _ _ (World.drew _)
      generalize hWD : wd.drew = W0
      have E8 := Lib.hid (show Ext wd W0 by rw [← hWD]; exact (Below.refl _ _).drew)
      have D8 := Lib.hid (show Dg W0 db dd by rw [← hWD]; exact D7.out)
      have L8 := Lib.hid (show BytesAt W0 lb 0 L by rw [← hWD]; exact L7.out)
      have hl8 : lb < W0.heap.size := by rw [← hWD]; exact l7
      clear hWD
      refine region_E [8] ?_
      refine anyU_takeD (i := 1) (v := .slice (some ⟨lb, 0, none⟩) n lcap) 30 rfl rfl (by kernel_rfl) (by kernel_rfl) (by kernel_rfl) (fun _ _ _ h => h) (by kernel_rfl) (Ext.stable _) (fun _ h => h) (yieldsU_val rfl (fun u hu => by rfl)) ?_
      refine anyU_takeD (i := 2) (v := .int .i64 kk) 31 rfl rfl (by kernel_rfl) (by kernel_rfl) (by kernel_rfl) (fun _ _ _ h => h) (by kernel_rfl) (Ext.stable _) (fun _ h => h) (yieldsU_val rfl (fun u hu => by rfl)) ?_
      refine anyU_takeD (i := 3) (v := .slice (some ⟨lb, 0, none⟩) kk lcap) 32 rfl rfl (by kernel_rfl) (by kernel_rfl) (by kernel_rfl) (fun _ _ _ h => h) (by kernel_rfl) (Ext.stable _) (fun _ h => h) (yieldsU_val rfl (fun u hu => by go_simp)) ?_
      refine anyU_takeD (i := 5) (v := .agg (bv dd).toArray) 34 rfl rfl (by kernel_rfl) (by kernel_rfl) (by kernel_rfl) (fun _ _ _ h => h) (by kernel_rfl) (Ext.stable _) (fun _ h => h) (yieldsU_of_C (yields_loadD rfl _ rfl db rfl dd HDL.out (fun u hu => D8.out.bel hu))) ?_
      have EW : Hid (Ext W0 W0) := Lib.hid (Ext.refl W0)
      refine anyU_two 0 6 4 _ _ rfl rfl rfl rfl (by kernel_rfl) ?v0x ?v6x
      case v0x =>
        intro w9 h
        go_wp2_with fail
        change ∃ C' : World → Prop, _ ∧ _ ∧ _ ∧ anyU _ _ _ _ _ _ 4 _ _ _
        generalize hA : World.alloc _ _ = W
        have z0 : W0.heap.size ≤ w9.heap.size := (Ext.trans EW.out h).size
        have O := Lib.hid (show OwnR W W0.heap.size (.slice (some ⟨w9.heap.size, 0, none⟩) 0 0) 0 [] by rw [← hA]; exact ownR_emp w9 _ z0)
        replace EW := Lib.hid (show Ext W0 W by rw [← hA]; exact Ext.alloc (Ext.trans EW.out h) _)
        clear hA h z0
        obtain ⟨e4, he4⟩ : ∃ b, w9.heap.size = b := ⟨_, rfl⟩
        rw [he4] at O ⊢
        clear he4
        refine anchor EW.out ?_
        refine anyU_two 4 6 3 _ _ rfl rfl rfl rfl (by kernel_rfl) ?v4_0x ?v6_0x
        case v4_0x =>
          intro w9 h
          have z0 : W0.heap.size ≤ w9.heap.size := (Ext.trans EW.out h).size
          refine list_appX rfl (.tmp 29) (.tmp 32) rfl W0.heap.size (.slice (some ⟨e4, 0, none⟩) 0 0) 0 [] rfl (ownR_below O.out h) lb 0 kk lcap (L.take (32 * kk)) rfl (by rw [List.length_take, hLl.out]; omega) ((L8.out.below (Ext.trans EW.out h) hl8).take _) (by omega) z0 ?_
          intro v1 W o1 g1 l1
          change ∃ C' : World → Prop, _ ∧ _ ∧ _ ∧ anyU _ _ _ _ _ _ 3 _ _ _
          replace EW := Lib.hid (show Ext W0 W from grown_below (Ext.trans EW.out h) g1 z0 (fun g hg => (ownR_lt O.out g hg).1))
          replace O := Lib.hid o1
          clear o1 g1 l1 h z0
          (try simp only [Act.put])
          refine anchor EW.out ?_
          refine anyU_one 6 2 _ rfl rfl (by kernel_rfl) ?_
          intro w9 h
          refine list_build1 (by rfl) (.tmp 34) rfl (bv dd) rfl (by rw [bv_len]; exact HDL.out) ?_
          change ∃ C' : World → Prop, _ ∧ _ ∧ _ ∧ anyU _ _ _ _ _ _ 2 _ _ _
          generalize hA : World.alloc _ _ = W
          have F8 := Lib.hid (show Dg W w9.heap.size dd by rw [← hA]; exact Dg.box w9 HDL.out)
          have NE8 : Hid (Value.ownBlock v1 ≠ some w9.heap.size) := Lib.hid (fun e => by have h1 := (ownR_lt O.out _ e).2; have h2 := h.size; omega)
          replace EW := Lib.hid (show Ext W0 W by rw [← hA]; exact Ext.alloc (Ext.trans EW.out h) _)
          replace O := Lib.hid (show OwnR W W0.heap.size v1 (0 + kk) ([] ++ L.take (32 * kk)) by rw [← hA]; exact ownR_below (ownR_below O.out h) (bel_alloc1 _ _))
          clear hA h
          obtain ⟨b8, hb_⟩ : ∃ b, w9.heap.size = b := ⟨_, rfl⟩
          rw [hb_] at F8 NE8 ⊢
          clear hb_
          refine anchor EW.out ?_
          refine anyU_one 7 1 _ rfl rfl (by kernel_rfl) ?_
          intro w9 h
          have z0 : W0.heap.size ≤ w9.heap.size := (Ext.trans EW.out h).size
          refine list_appX rfl (.tmp 33) (.tmp 35) rfl W0.heap.size v1 (0 + kk) ([] ++ L.take (32 * kk)) rfl (ownR_below O.out h) b8 0 1 1 dd rfl (by rw [HDL.out]) (F8.out.bel h).bytes (by omega) z0 ?_
          intro v1 W o1 g1 l1
          change ∃ C' : World → Prop, _ ∧ _ ∧ _ ∧ anyU _ _ _ _ _ _ 1 _ _ _
          replace EW := Lib.hid (show Ext W0 W from grown_below (Ext.trans EW.out h) g1 z0 (fun g hg => (ownR_lt O.out g hg).1))
          obtain ⟨q2, qc2, rfl, hs2, _⟩ := ownR_src o1
          have e1 : 0 + kk + 1 = kk + 1 := by omega
          rw [e1] at hs2 o1 ⊢
          have e2 : [] ++ L.take (32 * kk) ++ dd = fs := HFS.out
          rw [e2] at hs2 o1
          have HSM := Lib.hid (ownR_someN o1)
          have S2 := Lib.hid hs2
          clear e1 e2 hs2 o1 g1 l1 h z0 O F8 NE8
          (try simp only [Act.put])
          refine anchor EW.out ?_
          refine anyU_tail 8 [] rfl rfl (by decide) (by kernel_rfl) ?_
          intro w9 h
          simp only [Act.put, List.filterMap_cons, List.filterMap_nil, List.getElem?_cons_succ, List.getElem?_cons_zero]
          go_wp2_with fail
          go_meet
          exact ⟨q2, qc2, rfl, Lib.hid ⟨S2.out.below h, HSM.out, Ext.trans E8.out (Ext.trans EW.out h)⟩⟩
        case v6_0x =>
          intro w9 h
          refine list_build1 (by rfl) (.tmp 34) rfl (bv dd) rfl (by rw [bv_len]; exact HDL.out) ?_
          change ∃ C' : World → Prop, _ ∧ _ ∧ _ ∧ anyU _ _ _ _ _ _ 3 _ _ _
          generalize hA : World.alloc _ _ = W
          have F8 := Lib.hid (show Dg W w9.heap.size dd by rw [← hA]; exact Dg.box w9 HDL.out)
          have NE8 : Hid (Value.ownBlock (.slice (some ⟨e4, 0, none⟩) 0 0) ≠ some w9.heap.size) := Lib.hid (fun e => by have h1 := (ownR_lt O.out _ e).2; have h2 := h.size; omega)
          replace EW := Lib.hid (show Ext W0 W by rw [← hA]; exact Ext.alloc (Ext.trans EW.out h) _)
          replace O := Lib.hid (show OwnR W W0.heap.size (.slice (some ⟨e4, 0, none⟩) 0 0) 0 [] by rw [← hA]; exact ownR_below (ownR_below O.out h) (bel_alloc1 _ _))
          clear hA h
          obtain ⟨b8, hb_⟩ : ∃ b, w9.heap.size = b := ⟨_, rfl⟩
          rw [hb_] at F8 NE8 ⊢
          clear hb_
          refine anchor EW.out ?_
          refine anyU_one 4 2 _ rfl rfl (by kernel_rfl) ?_
          intro w9 h
          have z0 : W0.heap.size ≤ w9.heap.size := (Ext.trans EW.out h).size
          refine list_appX rfl (.tmp 29) (.tmp 32) rfl W0.heap.size (.slice (some ⟨e4, 0, none⟩) 0 0) 0 [] rfl (ownR_below O.out h) lb 0 kk lcap (L.take (32 * kk)) rfl (by rw [List.length_take, hLl.out]; omega) ((L8.out.below (Ext.trans EW.out h) hl8).take _) (by omega) z0 ?_
          intro v1 W o1 g1 l1
          change ∃ C' : World → Prop, _ ∧ _ ∧ _ ∧ anyU _ _ _ _ _ _ 2 _ _ _
          have z8 : b8 < w9.heap.size := Nat.lt_of_lt_of_le F8.out.lt h.size
          have N8 : Hid (v1.ownBlock ≠ some b8) := Lib.hid (fun e => by rcases l1 _ e with h1 | h1; exact NE8.out h1; omega)
          replace F8 := Lib.hid (show Dg W b8 _ from (F8.out.bel h).grown g1 NE8.out)
          replace EW := Lib.hid (show Ext W0 W from grown_below (Ext.trans EW.out h) g1 z0 (fun g hg => (ownR_lt O.out g hg).1))
          replace O := Lib.hid o1
          replace NE8 := N8
          clear z8
          clear o1 g1 l1 h z0
          (try simp only [Act.put])
          refine anchor EW.out ?_
          refine anyU_one 7 1 _ rfl rfl (by kernel_rfl) ?_
          intro w9 h
          have z0 : W0.heap.size ≤ w9.heap.size := (Ext.trans EW.out h).size
          refine list_appX rfl (.tmp 33) (.tmp 35) rfl W0.heap.size v1 (0 + kk) ([] ++ L.take (32 * kk)) rfl (ownR_below O.out h) b8 0 1 1 dd rfl (by rw [HDL.out]) (F8.out.bel h).bytes (by omega) z0 ?_
          intro v1 W o1 g1 l1
          change ∃ C' : World → Prop, _ ∧ _ ∧ _ ∧ anyU _ _ _ _ _ _ 1 _ _ _
          replace EW := Lib.hid (show Ext W0 W from grown_below (Ext.trans EW.out h) g1 z0 (fun g hg => (ownR_lt O.out g hg).1))
          obtain ⟨q2, qc2, rfl, hs2, _⟩ := ownR_src o1
          have e1 : 0 + kk + 1 = kk + 1 := by omega
          rw [e1] at hs2 o1 ⊢
          have e2 : [] ++ L.take (32 * kk) ++ dd = fs := HFS.out
          rw [e2] at hs2 o1
          have HSM := Lib.hid (ownR_someN o1)
          have S2 := Lib.hid hs2
          clear e1 e2 hs2 o1 g1 l1 h z0 O F8 NE8
          (try simp only [Act.put])
          refine anchor EW.out ?_
          refine anyU_tail 8 [] rfl rfl (by decide) (by kernel_rfl) ?_
          intro w9 h
          simp only [Act.put, List.filterMap_cons, List.filterMap_nil, List.getElem?_cons_succ, List.getElem?_cons_zero]
          go_wp2_with fail
          go_meet
          exact ⟨q2, qc2, rfl, Lib.hid ⟨S2.out.below h, HSM.out, Ext.trans E8.out (Ext.trans EW.out h)⟩⟩
      case v6x =>
        intro w9 h
        refine list_build1 (by rfl) (.tmp 34) rfl (bv dd) rfl (by rw [bv_len]; exact HDL.out) ?_
        change ∃ C' : World → Prop, _ ∧ _ ∧ _ ∧ anyU _ _ _ _ _ _ 4 _ _ _
        generalize hA : World.alloc _ _ = W
        have F8 := Lib.hid (show Dg W w9.heap.size dd by rw [← hA]; exact Dg.box w9 HDL.out)
        replace EW := Lib.hid (show Ext W0 W by rw [← hA]; exact Ext.alloc (Ext.trans EW.out h) _)
        clear hA h
        obtain ⟨b8, hb_⟩ : ∃ b, w9.heap.size = b := ⟨_, rfl⟩
        rw [hb_] at F8 ⊢
        clear hb_
        refine anchor EW.out ?_
        refine anyU_one 0 3 _ rfl rfl (by kernel_rfl) ?_
        intro w9 h
        go_wp2_with fail
        change ∃ C' : World → Prop, _ ∧ _ ∧ _ ∧ anyU _ _ _ _ _ _ 3 _ _ _
        generalize hA : World.alloc _ _ = W
        have z0 : W0.heap.size ≤ w9.heap.size := (Ext.trans EW.out h).size
        have O := Lib.hid (show OwnR W W0.heap.size (.slice (some ⟨w9.heap.size, 0, none⟩) 0 0) 0 [] by rw [← hA]; exact ownR_emp w9 _ z0)
        have z8 : b8 < w9.heap.size := Nat.lt_of_lt_of_le F8.out.lt h.size
        replace EW := Lib.hid (show Ext W0 W by rw [← hA]; exact Ext.alloc (Ext.trans EW.out h) _)
        replace F8 := Lib.hid (show Dg W b8 dd by rw [← hA]; exact (F8.out.bel h).alloc _)
        clear hA h z0
        obtain ⟨e4, he4⟩ : ∃ b, w9.heap.size = b := ⟨_, rfl⟩
        rw [he4] at O z8 ⊢
        clear he4
        have NE8 : Hid (Value.ownBlock (.slice (some ⟨e4, 0, none⟩) 0 0) ≠ some b8) := Lib.hid (by simp [Value.ownBlock]; omega)
        refine anchor EW.out ?_
        refine anyU_one 4 2 _ rfl rfl (by kernel_rfl) ?_
        intro w9 h
        have z0 : W0.heap.size ≤ w9.heap.size := (Ext.trans EW.out h).size
        refine list_appX rfl (.tmp 29) (.tmp 32) rfl W0.heap.size (.slice (some ⟨e4, 0, none⟩) 0 0) 0 [] rfl (ownR_below O.out h) lb 0 kk lcap (L.take (32 * kk)) rfl (by rw [List.length_take, hLl.out]; omega) ((L8.out.below (Ext.trans EW.out h) hl8).take _) (by omega) z0 ?_
        intro v1 W o1 g1 l1
        change ∃ C' : World → Prop, _ ∧ _ ∧ _ ∧ anyU _ _ _ _ _ _ 2 _ _ _
        have z8 : b8 < w9.heap.size := Nat.lt_of_lt_of_le F8.out.lt h.size
        have N8 : Hid (v1.ownBlock ≠ some b8) := Lib.hid (fun e => by rcases l1 _ e with h1 | h1; exact NE8.out h1; omega)
        replace F8 := Lib.hid (show Dg W b8 _ from (F8.out.bel h).grown g1 NE8.out)
        replace EW := Lib.hid (show Ext W0 W from grown_below (Ext.trans EW.out h) g1 z0 (fun g hg => (ownR_lt O.out g hg).1))
        replace O := Lib.hid o1
        replace NE8 := N8
        clear z8
        clear o1 g1 l1 h z0
        (try simp only [Act.put])
        refine anchor EW.out ?_
        refine anyU_one 7 1 _ rfl rfl (by kernel_rfl) ?_
        intro w9 h
        have z0 : W0.heap.size ≤ w9.heap.size := (Ext.trans EW.out h).size
        refine list_appX rfl (.tmp 33) (.tmp 35) rfl W0.heap.size v1 (0 + kk) ([] ++ L.take (32 * kk)) rfl (ownR_below O.out h) b8 0 1 1 dd rfl (by rw [HDL.out]) (F8.out.bel h).bytes (by omega) z0 ?_
        intro v1 W o1 g1 l1
        change ∃ C' : World → Prop, _ ∧ _ ∧ _ ∧ anyU _ _ _ _ _ _ 1 _ _ _
        replace EW := Lib.hid (show Ext W0 W from grown_below (Ext.trans EW.out h) g1 z0 (fun g hg => (ownR_lt O.out g hg).1))
        obtain ⟨q2, qc2, rfl, hs2, _⟩ := ownR_src o1
        have e1 : 0 + kk + 1 = kk + 1 := by omega
        rw [e1] at hs2 o1 ⊢
        have e2 : [] ++ L.take (32 * kk) ++ dd = fs := HFS.out
        rw [e2] at hs2 o1
        have HSM := Lib.hid (ownR_someN o1)
        have S2 := Lib.hid hs2
        clear e1 e2 hs2 o1 g1 l1 h z0 O F8 NE8
        (try simp only [Act.put])
        refine anchor EW.out ?_
        refine anyU_tail 8 [] rfl rfl (by decide) (by kernel_rfl) ?_
        intro w9 h
        simp only [Act.put, List.filterMap_cons, List.filterMap_nil, List.getElem?_cons_succ, List.getElem?_cons_zero]
        go_wp2_with fail
        go_meet
        exact ⟨q2, qc2, rfl, Lib.hid ⟨S2.out.below h, HSM.out, Ext.trans E8.out (Ext.trans EW.out h)⟩⟩
    case rest =>
    obtain ⟨q, qc, rfl, HC⟩ := hcut
    obtain ⟨S1, M1, E1⟩ := HC.out
    have S8 := Lib.hid S1
    have HQS := Lib.hid M1
    have X8 := Lib.hid (X7.out.bel E1)
    have Y8 := Lib.hid (Y7.out.bel E1)
    have D8 := Lib.hid (D7.out.bel E1)
    have L8 := Lib.hid (L7.out.below E1 l7)
    have B8 := Lib.hid (B7.out.trans (E1.mono B7.out.size))
    have l8 : lb < wc.heap.size := Nat.lt_of_lt_of_le l7 E1.size
    clear HC S1 M1 E1 X7 Y7 D7 L7 B7 l7
    go_wp2_with fail
    refine (pathTop_any kk (kk + 1) 1 fs al HPT.out (by omega) q qc wc S8 HFR (by omega) (Lib.hid (hk.out.below B8.out))).mono ?_
    rintro e w9 ⟨v, rfl, ho, hb9⟩
    obtain ⟨q2, qc2, rfl, hs2, _⟩ := ownR_src ho
    obtain ⟨pb, po, rfl, hpl, hpb⟩ : ∃ b off, q2 = some ⟨b, off, none⟩ ∧ b < w9.heap.size ∧ BytesAt w9 b off al := by
      obtain ⟨_, _, _, h4 | ⟨b, off, e, hb, hc⟩⟩ := hs2
      · omega
      · exact ⟨b, off, e, hb, hc⟩
    have P9 := Lib.hid hpb
    have S9 := Lib.hid (S8.out.below hb9)
    have X9 := Lib.hid (X8.out.bel hb9)
    have Y9 := Lib.hid (Y8.out.bel hb9)
    have D9 := Lib.hid (D8.out.bel hb9)
    have L9 := Lib.hid (L8.out.below hb9 l8)
    have B9 := Lib.hid (B8.out.trans (hb9.mono B8.out.size))
    have l9 : lb < w9.heap.size := Nat.lt_of_lt_of_le l8 hb9.size
    clear hs2 ho hb9 hpb S8 X8 Y8 D8 L8 B8 l8
    go_upto_region 10 with fail
    refine wp_region_any (by kernel_rfl) ?_
    change wpAny _ _ _ _ _ _ _ (World.drew _)
    generalize hWD : w9.drew = W0
    have E0 := Lib.hid (show Ext w9 W0 by rw [← hWD]; exact (Below.refl _ _).drew)
    have X0 := Lib.hid (show Dg W0 xb al by rw [← hWD]; exact X9.out)
    have Y0 := Lib.hid (show Dg W0 yb bl by rw [← hWD]; exact Y9.out)
    have S0 := Lib.hid (show SrcD W0 q (kk + 1) qc fs by rw [← hWD]; exact S9.out)
    have P0 := Lib.hid (show BytesAt W0 pb po al by rw [← hWD]; exact P9.out)
    have B0 := Lib.hid (show Below w.heap.size w W0 by rw [← hWD]; exact B9.out.drew)
    have hp0 : pb < W0.heap.size := by rw [← hWD]; exact hpl
    clear hWD
    refine region_E [24] ?_
    refine anyU_takeD (i := 0) (v := .slice q ((kk + 1 : Nat)) qc) 43 rfl rfl (by kernel_rfl) (by kernel_rfl) (by kernel_rfl) (fun _ _ _ h => h) (by kernel_rfl) (Ext.stable _) (fun _ h => h) (yieldsU_val rfl (fun u hu => by rfl)) ?_
    refine anyU_takeD (i := 1) (v := .agg (bv ls).toArray) 44 rfl rfl (by kernel_rfl) (by kernel_rfl) (by kernel_rfl) (fun _ _ _ h => h) (by kernel_rfl) (Ext.stable _) (fun _ h => h) (yieldsU_call rfl 19 _ _ rfl #[.slice q ((kk + 1 : Nat)) qc] (by simp [Act.eval, Act.put]) (fun u => by go_simp) (fun u hu => tree_any (kk + 1) fs ls HLT.out q qc u (Lib.hid (S0.out.below hu)) HFR (by omega) (Lib.hid (hk.out.below (B0.out.trans (hu.mono B0.out.size)))))) ?_
    refine anyU_takeD (i := 3) (v := .slice (some ⟨xb, 0, none⟩) 32 32) 46 rfl rfl (by kernel_rfl) (by kernel_rfl) (by kernel_rfl) (fun _ _ _ h => h) (by kernel_rfl) (Ext.stable _) (fun _ h => h) (yieldsU_val rfl (fun u hu => by go_simp)) ?_
    refine anyU_takeD (i := 5) (v := .slice (some ⟨yb, 0, none⟩) 32 32) 48 rfl rfl (by kernel_rfl) (by kernel_rfl) (by kernel_rfl) (fun _ _ _ h => h) (by kernel_rfl) (Ext.stable _) (fun _ h => h) (yieldsU_val rfl (fun u hu => by go_simp)) ?_
    refine anyU_one 2 20 _ rfl rfl (by kernel_rfl) ?_
    intro w1 h8
    go_wp2_with fail
    change ∃ C' : World → Prop, _ ∧ _ ∧ _ ∧ anyU _ _ _ _ _ _ 20 _ _ _
    refine anchor (Ext.alloc h8 _) ?_
    generalize hA : World.alloc _ _ = WG
    have G9 := Lib.hid (show Blk WG w1.heap.size #[] 5 by rw [← hA]; exact Blk.emp w1)
    have X1 := Lib.hid (show Dg WG xb al by rw [← hA]; exact (X0.out.bel h8).alloc _)
    have Y1 := Lib.hid (show Dg WG yb bl by rw [← hA]; exact (Y0.out.bel h8).alloc _)
    have EG := Lib.hid (show Ext W0 WG by rw [← hA]; exact Ext.alloc h8 _)
    have lye : yb < w1.heap.size := Nat.lt_of_lt_of_le Y0.out.lt h8.size
    have lee : W0.heap.size ≤ w1.heap.size := h8.size
    clear hA h8
    obtain ⟨eb, heb⟩ : ∃ b, w1.heap.size = b := ⟨_, rfl⟩
    rw [heb] at G9 lye lee ⊢
    clear heb
    refine anyU_one 4 19 _ rfl rfl (by kernel_rfl) ?_
    intro w2 h9
    refine list_appA (by rfl) (.tmp 45) (.tmp 46) rfl eb xb rfl (G9.out.below h9 G9.out.lt) rfl al (X1.out.bel h9) ?_
    intro v1 u1 o1 g1 b1
    change ∃ C' : World → Prop, _ ∧ _ ∧ _ ∧ anyU _ _ _ _ _ _ 19 _ _ _
    refine anchorF (fun u => Own8 u eb v1 al ∧ Dg u yb bl ∧ Below W0.heap.size W0 u ∧ eb ≤ u.heap.size) (fun u hu => hu.2.2.1) (fun u u' h k => ⟨own8_below h.1 k, h.2.1.bel k, h.2.2.1.trans (k.mono h.2.2.1.size), Nat.le_trans h.2.2.2 k.size⟩) ⟨o1, (Y1.out.bel h9).below b1 lye, Below.trans (Ext.trans EG.out h9) (b1.mono lee), g1⟩ ?_
    clear o1 g1 b1 h9 G9 X1 Y1 EG
    (try simp only [Act.put])
    refine anyU_one 6 18 _ rfl rfl (by kernel_rfl) ?_
    intro w10 h10
    obtain ⟨o10, y10, e10, g10⟩ := h10
    refine list_appB (by rfl) (.tmp 47) (.tmp 48) rfl eb yb v1 rfl al o10 HAL.out.len g10 rfl bl y10 ?_
    intro p2 c2 u2 s2 hc2 hm2 b2
    change ∃ C' : World → Prop, _ ∧ _ ∧ _ ∧ anyU _ _ _ _ _ _ 18 _ _ _
    have S2 := Lib.hid s2
    have EW := Lib.hid (show Ext W0 u2 from e10.trans (b2.mono lee))
    clear s2 b2 o10 y10 e10 g10
    (try simp only [Act.put])
    refine anchor EW.out ?_
    refine anyU_one 7 17 _ rfl rfl (by kernel_rfl) ?_
    intro w11 h11
    (try simp only [Act.put])
    go_wp2_with fail
    refine (tagged_any sNode p2 64 c2 (al ++ bl) w11 (Lib.hid (.inl (S2.out.below h11))) (Lib.hid (rng_append HAL.out.rng HBLr.out)) (by decide) (by omega) (Lib.hid (hk.out.below (B0.out.trans ((Ext.trans EW.out h11).mono B0.out.size)))) ts ls HTS HSS).mono ?_
    rintro e w12 ⟨rfl, hb12⟩
    replace EW := Lib.hid (show Ext W0 w12 from Ext.trans (Ext.trans EW.out h11) hb12)
    clear hb12 h11 S2
    go_wp2_with fail
    change ∃ C' : World → Prop, _ ∧ _ ∧ _ ∧ anyU _ _ _ _ _ _ 17 _ _ _
    refine anchor EW.out ?_
    (try simp only [Act.put, List.setIfInBounds_toArray, List.set_cons_succ, List.set_cons_zero])
    refine anyU_takeD (i := 8) (v := .bool false) 51 rfl rfl (by kernel_rfl) (by kernel_rfl) (by kernel_rfl) (fun _ _ _ h => h) (by kernel_rfl) (Ext.stable _) (fun _ hu => Ext.trans EW.out hu) (yieldsU_val rfl (fun u hu => by go_simp)) ?_
    refine anyU_takeD (i := 9) (v := .bool false) 52 rfl rfl (by kernel_rfl) (by kernel_rfl) (by kernel_rfl) (fun _ _ _ h => h) (by kernel_rfl) (Ext.stable _) (fun _ hu => Ext.trans EW.out hu) (yieldsU_val rfl (fun u hu => by rfl)) ?_
    refine anyU_takeD (i := 10) (v := .int .i64 0) 53 rfl rfl (by kernel_rfl) (by kernel_rfl) (by kernel_rfl) (fun _ _ _ h => h) (by kernel_rfl) (Ext.stable _) (fun _ hu => Ext.trans EW.out hu) (yieldsU_val rfl (fun u hu => by rfl)) ?_
    (try simp only [Act.put, List.setIfInBounds_toArray, List.set_cons_succ, List.set_cons_zero])
    refine anyU_takeD (i := 11) (v := .bool false) 54 rfl rfl (by kernel_rfl) (by kernel_rfl) (by kernel_rfl) (fun _ _ _ h => h) (by kernel_rfl) (Ext.stable _) (fun _ hu => Ext.trans EW.out hu) (yieldsU_val rfl (fun u hu => by go_simp)) ?_
    refine anyU_takeD (i := 12) (v := .bool false) 55 rfl rfl (by kernel_rfl) (by kernel_rfl) (by kernel_rfl) (fun _ _ _ h => h) (by kernel_rfl) (Ext.stable _) (fun _ hu => Ext.trans EW.out hu) (yieldsU_val rfl (fun u hu => by go_simp)) ?_
    refine anyU_takeD (i := 13) (v := .bool false) 56 rfl rfl (by kernel_rfl) (by kernel_rfl) (by kernel_rfl) (fun _ _ _ h => h) (by kernel_rfl) (Ext.stable _) (fun _ hu => Ext.trans EW.out hu) (yieldsU_val rfl (fun u hu => by rfl)) ?_
    (try simp only [Act.put, List.setIfInBounds_toArray, List.set_cons_succ, List.set_cons_zero])
    refine anyU_takeD (i := 14) (v := .slice (some ⟨pb, po, none⟩) 1 qc2) 57 rfl rfl (by kernel_rfl) (by kernel_rfl) (by kernel_rfl) (fun _ _ _ h => h) (by kernel_rfl) (Ext.stable _) (fun _ hu => Ext.trans EW.out hu) (yieldsU_val rfl (fun u hu => by rfl)) ?_
    refine anyU_takeD (i := 15) (v := .int .i64 1) 58 rfl rfl (by kernel_rfl) (by kernel_rfl) (by kernel_rfl) (fun _ _ _ h => h) (by kernel_rfl) (Ext.stable _) (fun _ hu => Ext.trans EW.out hu) (yieldsU_val rfl (fun u hu => by go_simp)) ?_
    refine anyU_takeD (i := 16) (v := .bool false) 59 rfl rfl (by kernel_rfl) (by kernel_rfl) (by kernel_rfl) (fun _ _ _ h => h) (by kernel_rfl) (Ext.stable _) (fun _ hu => Ext.trans EW.out hu) (yieldsU_val rfl (fun u hu => by go_simp)) ?_
    (try simp only [Act.put, List.setIfInBounds_toArray, List.set_cons_succ, List.set_cons_zero])
    refine anyU_takeD (i := 17) (v := .bool false) 60 rfl rfl (by kernel_rfl) (by kernel_rfl) (by kernel_rfl) (fun _ _ _ h => h) (by kernel_rfl) (Ext.stable _) (fun _ hu => Ext.trans EW.out hu) (yieldsU_val rfl (fun u hu => by go_simp)) ?_
    refine anyU_takeD (i := 18) (v := .bool false) 61 rfl rfl (by kernel_rfl) (by kernel_rfl) (by kernel_rfl) (fun _ _ _ h => h) (by kernel_rfl) (Ext.stable _) (fun _ hu => Ext.trans EW.out hu) (yieldsU_val rfl (fun u hu => by rfl)) ?_
    refine anyU_takeD (i := 19) (v := .slice (some ⟨pb, po, none⟩) 1 qc2) 62 rfl rfl (by kernel_rfl) (by kernel_rfl) (by kernel_rfl) (fun _ _ _ h => h) (by kernel_rfl) (Ext.stable _) (fun _ hu => Ext.trans EW.out hu) (yieldsU_val rfl (fun u hu => by rfl)) ?_
    (try simp only [Act.put, List.setIfInBounds_toArray, List.set_cons_succ, List.set_cons_zero])
    refine anyU_takeD (i := 20) (v := .pointer (some ⟨pb, po, none⟩)) 63 rfl rfl (by kernel_rfl) (by kernel_rfl) (by kernel_rfl) (fun _ _ _ h => h) (by kernel_rfl) (Ext.stable _) (fun _ hu => Ext.trans EW.out hu) (yieldsU_val rfl (fun u hu => by go_simp)) ?_
    refine anyU_takeD (i := 21) (v := .agg (bv al).toArray) 64 rfl rfl (by kernel_rfl) (by kernel_rfl) (by kernel_rfl) (fun _ _ _ h => h) (by kernel_rfl) (Ext.stable _) (fun _ hu => Ext.trans EW.out hu) (yieldsU_of_C (yields_loadM rfl _ rfl pb (po) rfl al HAL.out.len (fun u hu => P0.out.below hu hp0))) ?_
    refine anyU_takeD (i := 22) (v := .agg (bv al).toArray) 65 rfl rfl (by kernel_rfl) (by kernel_rfl) (by kernel_rfl) (fun _ _ _ h => h) (by kernel_rfl) (Ext.stable _) (fun _ hu => Ext.trans EW.out hu) (yieldsU_of_C (yields_loadD rfl _ rfl xb rfl al HAL.out.len (fun u hu => X0.out.bel hu))) ?_
    (try simp only [Act.put, List.setIfInBounds_toArray, List.set_cons_succ, List.set_cons_zero])
    refine anyU_takeD (i := 23) (v := .bool false) 66 rfl rfl (by kernel_rfl) (by kernel_rfl) (by kernel_rfl) (fun _ _ _ h => h) (by kernel_rfl) (Ext.stable _) (fun _ hu => Ext.trans EW.out hu) (yieldsU_val rfl (fun u hu => by go_simp)) ?_
    refine anyU_tail 24 [] rfl rfl (by decide) (by kernel_rfl) ?_
    intro w13 h13
    simp only [Act.put, List.filterMap_cons, List.filterMap_nil, List.getElem?_cons_succ, List.getElem?_cons_zero]
    have EZ := Lib.hid (Ext.trans E0.out (Ext.trans EW.out h13))
    have D13 := Lib.hid (D9.out.bel EZ.out)
    have L13 := Lib.hid (L9.out.below EZ.out l9)
    have B13 := Lib.hid (B9.out.trans (EZ.out.mono B9.out.size))
    have l13 : lb < w13.heap.size := Nat.lt_of_lt_of_le l9 EZ.out.size
    clear EZ D9 L9 B9 l9 h13 EW E0 X0 Y0 S0 P0 B0 X9 Y9 S9 P9
    go_wp2_with fail
    go_roundw
    case rel => exact ⟨kk * 2, j + 1, by omega, by omega, by go_num, Lib.hid (by rw [Nat.pow_succ, hkj.out]), D13, L13, l13, B13⟩
    case measure => simp [intOf]; omega

namespace digestNext
theorem readable : ∀ t ∈ Tryd.f8.params.toList, Tryd.prog.readableRec t = true ∧ t < Tryd.prog.types.size := by
  rw [Tryd.params8]
  intro t ht
  simp only [List.mem_cons, List.not_mem_nil, or_false] at ht
  rcases ht with rfl | rfl
  all_goals exact ⟨by kernel_rfl, by decide +kernel⟩

set_option maxRecDepth 100000 in
theorem lifted (os : Os) (started : os.Started) (H : Type) (enc : TypeId × Value → H) :
    ReturnsInHanded {} Tryd.checked os 8 .any (fun w args => (Rows.digestNextSpec.pre enc Tryd.prog Tryd.f8 [] false w args ∧ laidMetH Tryd.prog laidK w) ∧ sizedMet enc Tryd.prog Tryd.f8 (OpenSpec.ofChange Rows.digestNextSpec) false w args)
      (Rows.digestNextSpec.post enc Tryd.prog Tryd.f8 false true false false) := by
  refine returnsInHanded_of_change_and (C := Tryd.checked) (X := fun w _ => laidMetH Tryd.prog laidK w) (fun _ _ _ hh h => h.of_heap hh) own_knob started (by kernel_rfl) Tryd.func8
    (ChangeSpec.witness_shaped (enc := enc) (C := Tryd.checked) (os := os) (X := fun w _ => laidMetH Tryd.prog laidK w) false (World.doorLaid Tryd.prog 400 os) #[.slice none 0 0, .agg (bv (List.replicate 32 0)).toArray] 8 rfl (World.shaped_of_RefB (by kernel_rfl) (by kernel_rfl)) (by kernel_rfl) (by kernel_rfl) (by kernel_rfl) (door_met os _)) ?_
  intro W base args ds gs before hval0 hW _ _ hL _
  have hval : ∀ (j : Nat) t v, Tryd.f8.params[j]? = some t → args[j]? = some v → Value.okWide Tryd.prog W .any base t v := hval0
  have hW' := hW
  obtain ⟨p, q, hA0, hV, rfl, hfz, hnd⟩ := hW
  have hA : DataW.TrodAll enc Tryd.prog W 0 (fun _ => true) true Tryd.f8.params.toList args.toList ds p := hA0
  rw [Tryd.params8] at hA hval
  obtain ⟨v0, vs0, d0, ds0, p0, q0, hargs, rfl, rfl, h0, r0⟩ := trodAll_cons hA
  obtain ⟨v1, vs1, d1, ds1, p1, q1, rfl, rfl, rfl, h1, r1⟩ := trodAll_cons r0
  obtain ⟨rfl, rfl, rfl⟩ := trodAll_nil r1
  obtain rfl : args = #[v0, v1] := by cases args; simp_all
  obtain ⟨rfl, rfl⟩ := trodVars_none hV
  obtain ⟨s0, n0, c0, z0, rfl, w0, x0, y0, u0⟩ := open_src Tryd.underlying22 Tryd.underlying5 (by kernel_rfl) (hval 0 22 v0 rfl rfl) h0
  obtain ⟨z1, rfl, w1, x1⟩ := open_dig Tryd.underlying26 Tryd.underlying5 (by kernel_rfl) (by kernel_rfl) (hval 1 26 v1 rfl rfl) h1
  have hK := of_laid hL
  clear hA0 hval0
  refine (digestNext_walk s0 n0 c0 z0 z1 W (Lib.hid w0) (Lib.hid x0) (by unfold maxLen at u0; omega) (Lib.hid w1) (Lib.hid x1) (Lib.hid hK)).mono fun e W' ⟨he, hb⟩ => ?_
  subst he
  exact ⟨_, rfl, law_post laid_out readable rfl rfl Tryd.underlying4 hW' rfl rfl rfl hb⟩

theorem over : Rows.digestNextRow.holds Tryd.pinned (OpenSpec.ofChange Rows.digestNextSpec) :=
  OpenClaim.holds_of_wide 8 Tryd.f8 rfl rfl rfl rfl rfl rfl rfl ⟨rfl, rfl, rfl, rfl, rfl⟩ rfl rfl rfl rfl rfl (by kernel_rfl) Tryd.func8 (by kernel_rfl)
    (of_decide_eq_true (by kernel_rfl)) (by unfold Func.isWrapper; first | (rw [if_pos (by decide +kernel)]; kernel_rfl) | (rw [if_neg (by decide +kernel)]; exact ⟨rfl, rfl⟩))
    (fun os started H enc _ => lifted os started H enc)

/-- the statement: the tied card -/
theorem proved : Rows.DigestNextCardSaid :=
  Claim7.holds_tied_plain_at .later [] [.data] true (true, "3cbd8a75db85d0d7a91da629822e7c026b5a1beeafa1458dde1bbca6aeb395d6") false
    over (fun _ h => by cases h) (by kernel_rfl) (fun _ h => by cases h) digestNext_row_tie rfl ⟨rfl, rfl⟩ (by kernel_rfl) rfl
    (fun f fn hf hfn => by
      obtain rfl : f = 8 := Option.some.inj ((show Tryd.prog.funcNamed "franking/frankinglaw02.DigestNext" = some 8 by kernel_rfl).symm.trans hf) |>.symm
      obtain rfl : fn = Tryd.f8 := (Option.some.inj (Tryd.func8.symm.trans hfn)).symm
      exact ⟨by kernel_rfl, fun j t ht => by
        rw [Tryd.params8] at ht
        have hm : t ∈ [22, 26] := by simpa using Array.mem_of_getElem? ht
        have hall : ([22, 26].all fun u => !Tryd.prog.wantsStandIn u) = true := by kernel_rfl
        exact (show Tryd.prog.wantsStandIn t = false by simpa using List.all_eq_true.1 hall t hm)⟩)
    (by kernel_rfl)
end digestNext
end Go.Proofs.YtmheblpgofeafaaDoor
