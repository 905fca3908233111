/- The reference of layer 2: Sum. -/
import Derived.Test.YtmheblpgofeafaaDoorRefPad
import Derived.Test.YtmheblpgofeafaaDoorRefBlk
import Derived.Test.YtmheblpgofeafaaDoorDigTag
namespace Go.Proofs.YtmheblpgofeafaaDoor
open Go.RowKit
set_option linter.unusedVariables false
set_option linter.unusedSimpArgs false

theorem rblock_blk (s : S8) (b off cap : Nat) (bs : List Int) (w : World) (hl : Hid (bs.length = 64)) (hcap : 64 ≤ cap) (hmax : cap ≤ 9223372036854775807) (hb : b < w.heap.size)
    (hc : Hid (BytesAt w b off bs)) (hr : Hid (∀ z ∈ bs, 0 ≤ z ∧ z ≤ 255)) :
    Calls Tryd.prog 41 #[.agg #[.int .u32 s.a, .int .u32 s.b, .int .u32 s.c, .int .u32 s.d, .int .u32 s.e, .int .u32 s.f, .int .u32 s.g, .int .u32 s.h], .slice (some ⟨b, off, none⟩) 64 cap] w
      fun e w' => e = .returned (.agg (wv (block s bs).toList).toArray) ∧ Below w.heap.size w w' :=
  rblock_any s b off cap bs w hl hcap hmax hb hc hr (schedL bs 48) (Lib.hid (isSched bs)) (rounds bs s) (Lib.hid ⟨rfl, fun t ht => rfl⟩)
theorem gr_fill {w : World} {b : Nat} : ∀ (vs : List Value) (o : Nat) {w1 : World}, w.grownBy w1 (some b) → w.grownBy (w1.setCells b o vs) (some b)
  | [], _, _, h => h
  | v :: l, o, _, h => gr_fill l (o + 1) (gr_set h)
theorem h0Blk (w : World) : Blk (w.alloc (.cells #[.int .u32 1779033703, .int .u32 3144134277, .int .u32 1013904242, .int .u32 2773480762, .int .u32 1359893119, .int .u32 2600822924, .int .u32 528734635, .int .u32 1541459225] 54)) w.heap.size (wv S8.h0.toList).toArray 54 := Blk.new w _ _
theorem load8 {w : World} {b : Nat} {s : S8} (h : Blk w b (wv s.toList).toArray 54) : (Instr.loadAt 54 (.pointer (some ⟨b, 0, none⟩))).run Tryd.prog w = .ok (.agg #[.int .u32 s.a, .int .u32 s.b, .int .u32 s.c, .int .u32 s.d, .int .u32 s.e, .int .u32 s.f, .int .u32 s.g, .int .u32 s.h]) w :=
  run_loadAt_mid w b 0 54 (wv s.toList) _ h.range Tryd.underlying54 rfl (sizeT8' _ rfl)
theorem pad_all {bs T : List Int} {m : Nat} (hm : m = bs.length) (hT : (bs ++ [128] ++ List.replicate (zerosN m) 0) ++ lenB m = T) : shaPad bs = T := by
  unfold shaPad
  rw [← hT, ← hm]
  simp

set_option maxRecDepth 100000 in
set_option maxHeartbeats 1000000 in
theorem rsum_any (p : Option Addr) (m cap : Nat) (bs : List Int) (w : World) (hz : Hid (SrcW w p m cap bs)) (hr : Hid (∀ z ∈ bs, 0 ≤ z ∧ z ≤ 255)) (hn : m ≤ 1000000000) (ds : List Int) (hds : Hid (IsSha bs ds)) :
    Calls Tryd.prog 15 #[.slice p m cap] w fun e w' => e = .returned (.agg (bv ds).toArray) ∧ Below w.heap.size w w' := by
  have hml := Lib.hid hz.out.len
  go_enter Tryd.func15, Tryd.ntmps15
  go_upto_region 2 with (fail)
  generalize hW : World.alloc _ _ = W1
  have T1 : Hid (Blk W1 w.heap.size (bv (List.replicate 32 0)).toArray 26) := Lib.hid (by rw [← hW]; exact (zeros32 w).alloc _)
  have S1 : Hid (Blk W1 (w.heap.size + 1) (wv S8.h0.toList).toArray 54) := Lib.hid (by
    rw [← hW]
    have h := h0Blk (w.alloc (.cells (bv (List.replicate 32 0)).toArray 26))
    simp only [World.size_alloc] at h
    exact h)
  have B1 : Hid (Below w.heap.size w W1) := Lib.hid (by rw [← hW]; exact (bel_alloc1 _ _).alloc (by simp) _)
  clear hW
  obtain ⟨sb, hsb⟩ : ∃ sb, w.heap.size + 1 = sb := ⟨_, rfl⟩
  rw [hsb] at S1 ⊢
  have l1 := S1.out.lt
  go_wp2_with fail
  refine (rpad_any p m cap bs W1 (Lib.hid (hz.out.below B1.out)) hn (lenB m) (Lib.hid (isLen m hn)) (zerosN m) (by unfold zerosN; omega) (by unfold zerosN; omega)).mono ?_
  rintro e w2 ⟨v, rfl, hO, hb2⟩
  obtain ⟨T, hTT⟩ : ∃ T, (bs ++ [128] ++ List.replicate (zerosN m) 0) ++ lenB m = T := ⟨_, rfl⟩
  rw [hTT] at hO
  have HPD := Lib.hid (pad_all hml.out hTT)
  obtain ⟨pt, ct, rfl, hsrc, hct, hct2, hfresh⟩ := own8_src hO
  obtain ⟨q2, hq4, hqp⟩ : ∃ q2, T.length = 64 * q2 ∧ 0 < q2 := by
    rw [← hTT]
    simp only [List.length_append, List.length_replicate, List.length_singleton, ← hml.out, zerosN, lenB, List.length_map, List.length_range]
    exact ⟨(m + 1 + (119 - m % 64) % 64 + 8) / 64, by omega, by omega⟩
  have hTr := Lib.hid (show ∀ z ∈ T, 0 ≤ z ∧ z ≤ 255 by rw [← hTT]; have := tail_rng (k := 0) (c := zerosN m) hr.out m; rwa [List.drop_zero] at this)
  clear hTT hO
  obtain ⟨_, ⟨rfl, h0, _⟩ | ⟨tb, toff, rfl, htb, hTb⟩⟩ := hsrc
  · omega
  have HTb := Lib.hid hTb
  have htb2 : sb < tb := by have := hfresh _ rfl; simp at this; omega
  have hct3 : ct ≤ 9223372036854775807 := by have : maxLen ≤ 9223372036854775807 := by decide
                                             omega
  rw [hq4] at hct ⊢
  have S2 := Lib.hid (S1.out.below hb2 S1.out.lt)
  have T2 := Lib.hid (T1.out.below hb2 T1.out.lt)
  have B2 := Lib.hid (B1.out.trans (hb2.mono B1.out.size))
  have hq5 := Lib.hid hq4
  clear hq4 hfresh hTb hb2 S1 T1 B1 l1
  go_wp2_with fail
  go_loopw [5] (fun x wr => ∃ j : Nat, j ≤ q2 ∧ x = .int .i64 (64 * (j : Int)) ∧ Hid (Blk wr sb (wv (blocksN S8.h0 T j).toList).toArray 54) ∧ Hid (w2.grownBy wr (some sb))) (fun x _ => 64 * q2 - (intOf x).toNat)
  case atStart => exact ⟨0, by omega, rfl, S2, Lib.hid (gr_refl _ _)⟩
  case round =>
    clear S2
    obtain ⟨j, hj, rfl, hS, hG⟩ := hrel
    by_cases hlj : j < q2
    · have hbl : tb < wr.heap.size := Nat.lt_of_lt_of_le htb hG.out.size
      obtain ⟨st, hst⟩ : ∃ st, blocksN S8.h0 T j = st := ⟨_, rfl⟩
      have HST := Lib.hid hst
      rw [hst] at hS
      have ls := hS.out.lt
      have cS0 : wr.cell? ⟨sb, 0, none⟩ = some (.int .u32 st.a) := hS.out.cell 0
      have cS1 : wr.cell? ⟨sb, 1, none⟩ = some (.int .u32 st.b) := hS.out.cell 1
      have cS2 : wr.cell? ⟨sb, 2, none⟩ = some (.int .u32 st.c) := hS.out.cell 2
      have cS3 : wr.cell? ⟨sb, 3, none⟩ = some (.int .u32 st.d) := hS.out.cell 3
      have cS4 : wr.cell? ⟨sb, 4, none⟩ = some (.int .u32 st.e) := hS.out.cell 4
      have cS5 : wr.cell? ⟨sb, 5, none⟩ = some (.int .u32 st.f) := hS.out.cell 5
      have cS6 : wr.cell? ⟨sb, 6, none⟩ = some (.int .u32 st.g) := hS.out.cell 6
      have cS7 : wr.cell? ⟨sb, 7, none⟩ = some (.int .u32 st.h) := hS.out.cell 7
      clear hst
      go_wp2_with fail
      have wS : IntKind.i64.wrap (64 * (j : Int) + 64) = 64 * (j : Int) + 64 := by rw [IntKind.wrap_i64]; omega
      have f1 : (0 : Int) ≤ 64 * (j : Int) + 64 := by omega
      have f2 : 64 * (j : Int) + 64 ≤ (ct : Int) := by omega
      have f3 : (0 : Int) ≤ 64 * (j : Int) := by omega
      have f4 : 64 * (j : Int) ≤ max (64 * (j : Int) + 64) 0 := by omega
      have f5 : ct ≠ 64 * j := by omega
      have f6 : 64 * (j : Int) ≤ 64 * (j : Int) + 64 := by omega
      have t1 : (64 * (j : Int)).toNat = 64 * j := by omega
      have t2 : (64 * (j : Int) + 64).toNat = 64 * j + 64 := by omega
      have t3 : 64 * j + 64 - 64 * j = 64 := by omega
      refine wp_region_still_tail 6 (by kernel_rfl) (by kernel_rfl) ?_
      change wpStill _ _ wr.drew _ _ _
      simp only [List.take_succ_cons, List.take_zero, List.drop_succ_cons, List.drop_zero]
      iterate 6 still_step
      refine wpStill_nil ?_
      change wpList _ _ _ _ _ wr.drew
      clear wS f1 f2 f3 f4 f5 f6 t1 t2 t3
      go_wp2_with fail
      refine (rblock_blk st tb (toff + 64 * j) (ct - 64 * j) ((T.drop (64 * j)).take 64) wr.drew (Lib.hid ?a1) (by omega) (by omega) hbl (Lib.hid ?a3) (Lib.hid ?a4)).mono ?_
      case a1 => rw [List.length_take, List.length_drop]; have := hq5.out; omega
      case a3 => exact ((gr_bytes hG.out HTb.out htb (by omega)).drop (64 * j)).take 64
      case a4 => exact fun z hz => hTr.out z (List.mem_of_mem_drop (List.mem_of_mem_take hz))
      rintro e w3 ⟨rfl, hb3⟩
      have HG3 := Lib.hid (gr_below (gr_drew hG.out) hb3)
      have HS3 := Lib.hid (show Blk w3 sb (wv st.toList).toArray 54 from (show Blk wr.drew sb _ _ from hS.out).below hb3 hS.out.lt)
      have HSS : Hid ((block st ((T.drop (64 * j)).take 64)).toList = (blocksN S8.h0 T (j + 1)).toList) := Lib.hid (by rw [← HST.out]; rfl)
      have HL8 : Hid ((block st ((T.drop (64 * j)).take 64)).toList.length = 8) := Lib.hid rfl
      clear hb3 cS0 cS1 cS2 cS3 cS4 cS5 cS6 cS7 hS hG
      generalize (block st ((T.drop (64 * j)).take 64)).toList = L8 at HSS HL8 ⊢
      have q4 : w3.there sb 0 (wv L8).toArray.size := by have := HS3.out.there; rw [show (wv L8).toArray.size = (wv st.toList).length by simp [wv, HL8.out]; rfl]; exact this
      have q5 : (Tryd.prog.info? 54).map (·.size) = some (wv L8).toArray.size := sizeT8 _ HL8.out
      have q6 := all_oneCell_toArray (wv_one L8)
      go_wp2_with (refine wpList_store_mid rfl 54 (.tmp 3) (.tmp 23) rfl sb 0 (wv L8).toArray rfl rfl q4 q5 q6 ?_)
      have hf : Blk (w3.setCells sb 0 (wv L8).toArray.toList) sb (wv L8).toArray 54 := HS3.out.fill (by simp [wv, HL8.out]; rfl)
      have hg : w2.grownBy (w3.setCells sb 0 (wv L8).toArray.toList) (some sb) := gr_fill _ _ HG3.out
      have HF := Lib.hid hf; have HG := Lib.hid hg
      clear hf hg q4 q5 q6 HS3 HG3
      go_roundw
      case rel => exact ⟨j + 1, by omega, by simp; omega, Lib.hid (by rw [← HSS.out]; exact HF.out), HG⟩
      case measure => simp [intOf]; omega
    · obtain rfl : j = q2 := by omega
      have T3 := Lib.hid (gr_blk hG.out T2.out (by omega))
      have B3 := Lib.hid (bel_gr B2.out hG.out (by omega) B2.out.size)
      obtain ⟨st, hst⟩ : ∃ st, blocksN S8.h0 T j = st := ⟨_, rfl⟩
      rw [hst] at hS
      have hd : Hid (IsBytes st ds) := Lib.hid (by
        rw [← hds.out.eq, show sha bs = bytesS (blocksN S8.h0 T j) by unfold sha blocks; rw [HPD.out, hq5.out, Nat.mul_div_cancel_left j (by omega)], hst]
        exact isBytes _)
      clear hst hG T2 B2 HPD
      have hz32 : (List.replicate 32 (0 : Int)).length = 32 := by simp
      have hlit : [.int .u8 0, .int .u8 0, .int .u8 0, .int .u8 0, .int .u8 0, .int .u8 0, .int .u8 0, .int .u8 0, .int .u8 0, .int .u8 0, .int .u8 0, .int .u8 0, .int .u8 0, .int .u8 0, .int .u8 0, .int .u8 0, .int .u8 0, .int .u8 0, .int .u8 0, .int .u8 0, .int .u8 0, .int .u8 0, .int .u8 0, .int .u8 0, .int .u8 0, .int .u8 0, .int .u8 0, .int .u8 0, .int .u8 0, .int .u8 0, .int .u8 0, .int .u8 0] = bv (List.replicate 32 0) := rfl
      have q1 : (wr.alloc (.cells #[.int .u8 0, .int .u8 0, .int .u8 0, .int .u8 0, .int .u8 0, .int .u8 0, .int .u8 0, .int .u8 0, .int .u8 0, .int .u8 0, .int .u8 0, .int .u8 0, .int .u8 0, .int .u8 0, .int .u8 0, .int .u8 0, .int .u8 0, .int .u8 0, .int .u8 0, .int .u8 0, .int .u8 0, .int .u8 0, .int .u8 0, .int .u8 0, .int .u8 0, .int .u8 0, .int .u8 0, .int .u8 0, .int .u8 0, .int .u8 0, .int .u8 0, .int .u8 0] 26)).there wr.heap.size 0 (bv (List.replicate 32 0)).toArray.size := by have := (zeros32 wr).there; simpa using this
      have hfz : Blk (wr.alloc (.cells #[.int .u8 0, .int .u8 0, .int .u8 0, .int .u8 0, .int .u8 0, .int .u8 0, .int .u8 0, .int .u8 0, .int .u8 0, .int .u8 0, .int .u8 0, .int .u8 0, .int .u8 0, .int .u8 0, .int .u8 0, .int .u8 0, .int .u8 0, .int .u8 0, .int .u8 0, .int .u8 0, .int .u8 0, .int .u8 0, .int .u8 0, .int .u8 0, .int .u8 0, .int .u8 0, .int .u8 0, .int .u8 0, .int .u8 0, .int .u8 0, .int .u8 0, .int .u8 0] 26)) wr.heap.size (bv (List.replicate 32 0)).toArray 26 := zeros32 wr
      generalize List.replicate 32 (0 : Int) = zz at hz32 hlit q1 hfz
      have HZ32 := Lib.hid hz32
      have HL := Lib.hid hlit
      have HFZ := Lib.hid hfz
      have q2 := size32 zz hz32
      have q3 := all_oneCell_toArray (bv_one zz)
      clear hlit hfz hz32
      go_upto_region 8 with (refine wpList_store_mid rfl 26 (.tmp 6) (.tmp 24) rfl wr.heap.size 0 (bv zz).toArray rfl ?hy q1 q2 q3 ?_)
      case hy => first | exact HL.out | exact congrArg (fun l => Value.agg (List.toArray l)) HL.out
      simp only [Act.put]
      generalize hW5 : World.setCells _ _ _ _ = W5
      have ZB : Hid (Blk W5 wr.heap.size (bv zz).toArray 26) := Lib.hid (by rw [← hW5]; exact HFZ.out.fill rfl)
      have SB : Hid (Blk W5 sb (wv st.toList).toArray 54) := Lib.hid (by rw [← hW5]; exact Blk.others (Nat.ne_of_lt hS.out.lt) _ _ (hS.out.alloc _))
      have TB : Hid (Blk W5 w.heap.size (bv (List.replicate 32 0)).toArray 26) := Lib.hid (by rw [← hW5]; exact Blk.others (Nat.ne_of_lt T3.out.lt) _ _ (T3.out.alloc _))
      have BB : Hid (Below w.heap.size w W5) := Lib.hid (by rw [← hW5]; exact setCells_below B3.out.size _ _ (B3.out.alloc B3.out.size _))
      clear q1 q2 q3 HL HFZ
      have hsl := hS.out.lt
      have hwl := B3.out.size
      clear hW5 hS T3 B3
      obtain ⟨db, hdb'⟩ : ∃ db, wr.heap.size = db := ⟨_, rfl⟩
      rw [hdb'] at ZB hsl hwl ⊢
      have hdb : w.heap.size ≤ db := hwl
      have hwd : w.heap.size < db := by omega
      clear hdb'
      go_wp2_with fail
      go_loopw [7] (fun x wr => ∃ (i : Nat) (n : Int) (zs : List Int), i ≤ 32 ∧ n = i ∧ x = .int .i64 n ∧ Hid (zs.length = 32) ∧ Hid (∀ j, j < i → zs.getD j 0 = ds.getD j 0) ∧ Hid (Blk wr db (bv zs).toArray 26) ∧ Hid (Blk wr sb (wv st.toList).toArray 54 ∧ Blk wr w.heap.size (bv (List.replicate 32 0)).toArray 26) ∧ Hid (Below w.heap.size w wr)) (fun x _ => 32 - (intOf x).toNat)
      case atStart => exact ⟨0, 0, zz, by omega, rfl, rfl, HZ32, Lib.hid fun j hj => by omega, ZB, Lib.hid ⟨SB.out, TB.out⟩, BB⟩
      case round =>
        clear ZB SB TB BB
        obtain ⟨i, n, zs, hi32, hn', rfl, hz, hv, HT, HS, HB⟩ := hrel
        have lT := HT.out.lt
        have lS := HS.out.1.lt
        by_cases hlt : i < 32
        · subst hn'
          obtain ⟨a, hi4, ha⟩ : ∃ a, i / 4 = a ∧ a < 8 := ⟨_, rfl, by omega⟩
          have hq4 : (i : Int) / 4 = (a : Int) := by omega
          have e1 := HS.out.1.cell a
          rw [wv_get _ a (by show a < 8; exact ha)] at e1
          obtain ⟨x, hx⟩ : ∃ x, st.toList.getD a 0 = x := ⟨_, rfl⟩
          rw [hx] at e1
          have HX := Lib.hid hx
          have e0 := HT.out.cell i
          rw [bv_get zs i (by have := hz.out; omega)] at e0
          generalize zs.getD i 0 = y at e0
          have f0 := HT.out.frozen i
          clear hx
          rcases (by omega : i % 4 = 0 ∨ i % 4 = 1 ∨ i % 4 = 2 ∨ i % 4 = 3) with hm4 | hm4 | hm4 | hm4
          · have hr4 : (i : Int) % 4 = 0 := by omega
            have HV := Lib.hid (hd.out.2 a ha 0 (by omega))
            rw [HX.out] at HV
            have HI := Lib.hid hi4
            clear hi4
            go_wp2_with fail
            go_roundw
            case rel =>
              have hi4 := HI.out
              have hb := HT.out.set i (.int .u8 (ds.getD i 0))
              rw [bv_set] at hb
              refine ⟨i + 1, i + 1, zs.set i (ds.getD i 0), by omega, by omega, rfl, Lib.hid (by rw [List.length_set]; exact hz.out), Lib.hid (set_inv32 hz.out hlt hv.out rfl), Lib.hid ?_, Lib.hid ?_, Lib.hid ?_⟩
              · have h := HV.out
                simp only [Nat.mul_zero, Nat.mul_one, Nat.reduceMul, Nat.reduceSub, Nat.sub_zero, Int.reducePow, Nat.add_zero, Nat.sub_self, Int.pow_zero, Int.ediv_one] at h
                rw [show 4 * a = i by omega] at h
                rw [h]
                exact hb
              · exact ⟨HS.out.1.other (b' := db) _ _ (by omega), HS.out.2.other (b' := db) _ _ (by omega)⟩
              · exact HB.out.setCell (p := ⟨db, i, none⟩) hdb _
            case measure => simp [intOf]; omega
          · have hr4 : (i : Int) % 4 = 1 := by omega
            have HV := Lib.hid (hd.out.2 a ha 1 (by omega))
            rw [HX.out] at HV
            have HI := Lib.hid hi4
            clear hi4
            go_wp2_with fail
            go_roundw
            case rel =>
              have hi4 := HI.out
              have hb := HT.out.set i (.int .u8 (ds.getD i 0))
              rw [bv_set] at hb
              refine ⟨i + 1, i + 1, zs.set i (ds.getD i 0), by omega, by omega, rfl, Lib.hid (by rw [List.length_set]; exact hz.out), Lib.hid (set_inv32 hz.out hlt hv.out rfl), Lib.hid ?_, Lib.hid ?_, Lib.hid ?_⟩
              · have h := HV.out
                simp only [Nat.mul_zero, Nat.mul_one, Nat.reduceMul, Nat.reduceSub, Nat.sub_zero, Int.reducePow, Nat.add_zero, Nat.sub_self, Int.pow_zero, Int.ediv_one] at h
                rw [show 4 * a + 1 = i by omega] at h
                rw [h]
                exact hb
              · exact ⟨HS.out.1.other (b' := db) _ _ (by omega), HS.out.2.other (b' := db) _ _ (by omega)⟩
              · exact HB.out.setCell (p := ⟨db, i, none⟩) hdb _
            case measure => simp [intOf]; omega
          · have hr4 : (i : Int) % 4 = 2 := by omega
            have HV := Lib.hid (hd.out.2 a ha 2 (by omega))
            rw [HX.out] at HV
            have HI := Lib.hid hi4
            clear hi4
            go_wp2_with fail
            go_roundw
            case rel =>
              have hi4 := HI.out
              have hb := HT.out.set i (.int .u8 (ds.getD i 0))
              rw [bv_set] at hb
              refine ⟨i + 1, i + 1, zs.set i (ds.getD i 0), by omega, by omega, rfl, Lib.hid (by rw [List.length_set]; exact hz.out), Lib.hid (set_inv32 hz.out hlt hv.out rfl), Lib.hid ?_, Lib.hid ?_, Lib.hid ?_⟩
              · have h := HV.out
                simp only [Nat.mul_zero, Nat.mul_one, Nat.reduceMul, Nat.reduceSub, Nat.sub_zero, Int.reducePow, Nat.add_zero, Nat.sub_self, Int.pow_zero, Int.ediv_one] at h
                rw [show 4 * a + 2 = i by omega] at h
                rw [h]
                exact hb
              · exact ⟨HS.out.1.other (b' := db) _ _ (by omega), HS.out.2.other (b' := db) _ _ (by omega)⟩
              · exact HB.out.setCell (p := ⟨db, i, none⟩) hdb _
            case measure => simp [intOf]; omega
          · have hr4 : (i : Int) % 4 = 3 := by omega
            have HV := Lib.hid (hd.out.2 a ha 3 (by omega))
            rw [HX.out] at HV
            have HI := Lib.hid hi4
            clear hi4
            go_wp2_with fail
            go_roundw
            case rel =>
              have hi4 := HI.out
              have hb := HT.out.set i (.int .u8 (ds.getD i 0))
              rw [bv_set] at hb
              refine ⟨i + 1, i + 1, zs.set i (ds.getD i 0), by omega, by omega, rfl, Lib.hid (by rw [List.length_set]; exact hz.out), Lib.hid (set_inv32 hz.out hlt hv.out rfl), Lib.hid ?_, Lib.hid ?_, Lib.hid ?_⟩
              · have h := HV.out
                simp only [Nat.mul_zero, Nat.mul_one, Nat.reduceMul, Nat.reduceSub, Nat.sub_zero, Int.reducePow, Nat.add_zero, Nat.sub_self, Int.pow_zero, Int.ediv_one] at h
                rw [show 4 * a + 3 = i by omega] at h
                rw [h]
                exact hb
              · exact ⟨HS.out.1.other (b' := db) _ _ (by omega), HS.out.2.other (b' := db) _ _ (by omega)⟩
              · exact HB.out.setCell (p := ⟨db, i, none⟩) hdb _
            case measure => simp [intOf]; omega
        · obtain rfl : n = 32 := by omega
          obtain rfl : i = 32 := by omega
          clear hn' hlt hi32
          have HE := same32 hz.out hd.out.1 hv.out
          subst HE
          have hz' := hz.out
          have q1 := HT.out.range
          have q2' := size32' zs hz'
          have q3 := size32 zs hz'
          have q4 : wr.there w.heap.size 0 (bv zs).toArray.size := by have := HS.out.2.there; simp only [bv_len, List.length_replicate] at this; simp only [List.size_toArray, bv_len, hz']; exact this
          have q5 := all_oneCell_toArray (bv_one zs)
          go_upto_region 12 with (fail)
          go_wp2_with (first
            | refine wpList_load_mid rfl 26 (.tmp 6) rfl db 0 rfl (bv zs) _ q1 Tryd.underlying26 rfl q2' ?_
            | refine wpList_store_mid rfl 26 (.tmp 2) (.tmp 41) rfl w.heap.size 0 (bv zs).toArray rfl rfl q4 q3 q5 ?_)
          refine bodyPost_ret (v := .agg (bv zs).toArray) (results_cell1 (a := ⟨w.heap.size, 0, none⟩) rfl _ rfl (run_loadVar_mid _ w.heap.size 0 _ (bv zs) _ (HS.out.2.fill (by rw [bv_len, bv_len, hz', List.length_replicate])).range Tryd.underlying26 rfl q2')) rfl ⟨rfl, setCells_below (Nat.le_refl _) _ _ HB.out⟩
end Go.Proofs.YtmheblpgofeafaaDoor
