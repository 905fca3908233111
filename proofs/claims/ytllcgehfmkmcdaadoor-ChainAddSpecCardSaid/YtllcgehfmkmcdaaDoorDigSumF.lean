/- The hash of bytes: digest.Sum, for every slice. -/
import Derived.Test.YtllcgehfmkmcdaaDoorDigSum
namespace Go.Proofs.YtllcgehfmkmcdaaDoor
open Go.RowKit
set_option linter.unusedVariables false
set_option linter.unusedSimpArgs false

set_option maxRecDepth 100000 in
set_option maxHeartbeats 2000000 in
theorem sum_full (b off q : Nat) (bs : List Int) (w : World) (hz : Hid (BytesAt w b off bs)) (hm : Hid (64 * q = bs.length)) (hb : b < w.heap.size) (hr : Hid (∀ z ∈ bs, 0 ≤ z ∧ z ≤ 255)) (hn : 64 * q ≤ 1000000000) (hk : Hid (KeysAt w)) (ds : List Int) (hds : Hid (IsSha bs ds)) :
    Calls Tryd.prog 33 #[.slice (some ⟨b, off, none⟩) (64 * q) (64 * q)] w fun e w' => e = .returned (.agg (bv ds).toArray) ∧ Below w.heap.size w w' := by
  have hq : 64 * q / 64 = q := by omega
  have hmax : 64 * q ≤ 9223372036854775807 := by omega
  have hcap : 64 * q ≤ 64 * q := Nat.le_refl _
  have HQ1 : Hid (((64 * q) : Int) / 64 * 64 = ((64 * q : Nat) : Int)) := Lib.hid (by omega)
  have hq2 : 64 * q ≤ (64 * q) := by omega
  have hq3 : (64 * q) - 64 * q < 64 := by omega
  have HQ := Lib.hid hq
  clear hq
  have hk0 := hk.out.1
  go_enter Tryd.func33, Tryd.ntmps33
  go_wp2_with fail
  refine (start_any _).mono ?_; rintro e w1 ⟨rfl, hb1⟩
  have hT := Lib.hid ((zeros32 w).below hb1 (by simp))
  have hB1 := Lib.hid ((bel_alloc1 w _).trans (hb1.mono (by simp)))
  clear hb1
  go_upto_region 4 with (fail)
  generalize hW : w1.alloc _ = W1
  have S1 := Lib.hid (show Blk W1 w1.heap.size (wv S8.h0.toList).toArray 68 by rw [← hW]; exact start8 w1)
  have T1 := Lib.hid (show Blk W1 w.heap.size (bv (List.replicate 32 0)).toArray 35 by rw [← hW]; exact hT.out.alloc _)
  have B1 := Lib.hid (show Below w.heap.size w W1 by rw [← hW]; exact hB1.out.alloc hB1.out.size _)
  have hlt : w.heap.size < w1.heap.size := hT.out.lt
  have hW1 : W1.heap.size = w1.heap.size + 1 := by rw [← hW]; simp
  clear hW hT hB1
  obtain ⟨sb, hsb⟩ : ∃ sb, w1.heap.size = sb := ⟨_, rfl⟩
  rw [hsb] at S1 hlt hW1 ⊢
  clear hsb
  go_wp2_with fail
  rw [show 64 * q - q * 64 = 0 by omega, Int.mul_comm (q : Int) 64]
  refine (pad_any (some ⟨b, off, none⟩) 0 0 (bs.drop (64 * q)) (64 * q) W1 (Lib.hid ?d1) (by omega) hn (lenB (64 * q)) (Lib.hid (isLen (64 * q) hn)) (zerosN (64 * q)) ?d2).mono ?_
  case d1 => exact .inl ⟨by rw [List.length_drop, ← hm.out]; omega, .inr ⟨b, off, rfl, Nat.lt_of_lt_of_le hb B1.out.size, fun j hj => by rw [List.length_drop, ← hm.out] at hj; omega⟩⟩
  case d2 => unfold zerosN; omega
  rintro e w2 ⟨v, rfl, hO, hb2⟩
  obtain ⟨T, hTT⟩ : ∃ T, (bs.drop (64 * q) ++ [128] ++ List.replicate (zerosN (64 * q)) 0) ++ lenB (64 * q) = T := ⟨_, rfl⟩
  rw [hTT] at hO
  have HTT := Lib.hid hTT
  obtain ⟨pt, ct, rfl, hsrc, hct, hct2, hfresh⟩ := own8_src hO
  obtain ⟨q2, hq4, hqp⟩ : ∃ q2, T.length = 64 * q2 ∧ 0 < q2 := by
    rw [← hTT]
    simp only [List.length_append, List.length_drop, List.length_replicate, List.length_singleton, ← hm.out, zerosN, lenB, List.length_map, List.length_range]
    exact ⟨((64 * q) - 64 * q + 1 + (119 - (64 * q) % 64) % 64 + 8) / 64, by omega, by omega⟩
  have hTr := Lib.hid (show ∀ z ∈ T, 0 ≤ z ∧ z ≤ 255 by rw [← hTT]; exact tail_rng hr.out (64 * q))
  clear hTT hO
  obtain ⟨_, ⟨rfl, h0, _⟩ | ⟨tb, toff, rfl, htb, hTb⟩⟩ := hsrc
  · omega
  have HTb := Lib.hid hTb
  have htb2 : sb < tb := by have := hfresh _ rfl; simp at this; omega
  have hct3 : ct ≤ 9223372036854775807 := by have : maxLen ≤ 9223372036854775807 := by decide
                                             omega
  rw [hq4] at hct ⊢
  have S2 := Lib.hid (S1.out.below hb2 S1.out.lt)
  have T2 := Lib.hid (T1.out.below hb2 T1.out.lt)
  have B2 := Lib.hid (B1.out.trans (hb2.mono B1.out.size))
  have hbs2 : b < w2.heap.size := Nat.lt_of_lt_of_le hb B2.out.size
  have HZ2 := Lib.hid (hz.out.below B2.out hb)
  have HK2 := Lib.hid (hk.out.below B2.out)
  have hq5 := Lib.hid hq4
  clear hq4 hfresh hTb hb2 S1 T1 B1 hW1
  go_wp2_with fail
  go_loopw [7] (fun x wr => ∃ j : Nat, j ≤ q ∧ x = .int .i64 (64 * (j : Int)) ∧ Hid (Blk wr sb (wv (blocksN S8.h0 bs j).toList).toArray 68) ∧ Hid (w2.grownBy wr (some sb))) (fun x _ => 64 * q - (intOf x).toNat)
  case atStart => exact ⟨0, by omega, rfl, S2, Lib.hid (gr_refl _ _)⟩
  case round =>
    clear S2
    obtain ⟨j, hj, rfl, hS, hG⟩ := hrel
    by_cases hlj : j < q
    · have hbl : b < wr.heap.size := Nat.lt_of_lt_of_le hbs2 hG.out.size
      go_wp2_with fail
      refine (absorb_blk sb (blocksN S8.h0 bs j) 68 b (off + 64 * j) ((64 * q) - 64 * j) ((bs.drop (64 * j)).take 64) wr (Lib.hid ?a1) (by omega) (by omega) hbl (by omega) (Lib.hid ?a3) (Lib.hid ?a4) hS (Lib.hid (gr_keys hG.out HK2.out (by omega))) (by omega)).mono ?_
      case a1 => rw [List.length_take, List.length_drop]; have := hm.out; omega
      case a3 => exact ((gr_bytes hG.out HZ2.out hbs2 (by omega)).drop (64 * j)).take 64
      case a4 => exact fun z hz => hr.out z (List.mem_of_mem_drop (List.mem_of_mem_take hz))
      rintro e w3 ⟨rfl, hS3, hG3⟩
      have HS3 := Lib.hid hS3; have HG3 := Lib.hid (gr_trans hG.out hG3)
      clear hS3 hG3 hbl
      go_wp2_with fail
      go_roundw
      case rel => exact ⟨j + 1, by omega, by simp; omega, Lib.hid (by rw [blocksN_succ]; exact HS3.out), HG3⟩
      case measure => simp [intOf]; omega
    · obtain rfl : j = q := by omega
      go_wp2_with fail
      go_loopw [8] (fun x wr => ∃ i : Nat, i ≤ q2 ∧ x = .int .i64 (64 * (i : Int)) ∧ Hid (Blk wr sb (wv (blocksN (blocksN S8.h0 bs j) T i).toList).toArray 68) ∧ Hid (w2.grownBy wr (some sb))) (fun x _ => 64 * q2 - (intOf x).toNat)
      case atStart => exact ⟨0, by omega, rfl, hS, hG⟩
      case round =>
        clear hS hG hj hlj
        obtain ⟨i, hi, rfl, hS, hG⟩ := hrel
        by_cases hli : i < q2
        · have hbl : tb < wr.heap.size := Nat.lt_of_lt_of_le htb hG.out.size
          go_wp2_with fail
          refine (absorb_blk sb (blocksN (blocksN S8.h0 bs j) T i) 68 tb (toff + 64 * i) (ct - 64 * i) ((T.drop (64 * i)).take 64) wr (Lib.hid ?b1) (by omega) (by omega) hbl (by omega) (Lib.hid ?b3) (Lib.hid ?b4) hS (Lib.hid (gr_keys hG.out HK2.out (by omega))) (by omega)).mono ?_
          case b1 => rw [List.length_take, List.length_drop]; have := hq5.out; omega
          case b3 => exact ((gr_bytes hG.out HTb.out htb (by omega)).drop (64 * i)).take 64
          case b4 => exact fun z hz => hTr.out z (List.mem_of_mem_drop (List.mem_of_mem_take hz))
          rintro e w3 ⟨rfl, hS3, hG3⟩
          have HS3 := Lib.hid hS3; have HG3 := Lib.hid (gr_trans hG.out hG3)
          clear hS3 hG3 hbl
          go_wp2_with fail
          go_roundw
          case rel => exact ⟨i + 1, by omega, by simp; omega, Lib.hid (by rw [blocksN_succ]; exact HS3.out), HG3⟩
          case measure => simp [intOf]; omega
        · obtain rfl : i = q2 := by omega
          have T3 := Lib.hid (gr_blk hG.out T2.out (by omega))
          have B3 := Lib.hid (bel_gr B2.out hG.out (by omega) B2.out.size)
          go_wp2_with fail
          refine (bytes_any sb (blocksN (blocksN S8.h0 bs j) T i) 68 wr hS ds (Lib.hid ?e1)).mono ?_
          case e1 => rw [← hds.out.eq, sha_parts bs T (64 * j) j i hm.out HQ.out HTT.out hq5.out]; exact isBytes _
          rintro e w4 ⟨rfl, hb4⟩
          have T4 := Lib.hid (T3.out.below hb4 T3.out.lt)
          have B4 := Lib.hid (B3.out.trans (hb4.mono B3.out.size))
          clear hb4
          have hd32 : ds.length = 32 := by rw [← hds.out.eq]; exact sha_len bs
          have q1 := size32' ds hd32
          have q3 := size32 ds hd32
          have q4 : w4.there w.heap.size 0 (bv ds).toArray.size := by have := T4.out.there; simp only [bv_len, List.length_replicate] at this; simp only [List.size_toArray, bv_len, hd32]; exact this
          have q5 := all_oneCell_toArray (bv_one ds)
          clear hd32
          go_wp2_with (refine wpList_store_mid rfl 35 _ _ rfl w.heap.size 0 (bv ds).toArray rfl rfl q4 q3 q5 ?_)
          refine bodyPost_ret (v := .agg (bv ds).toArray) (results_cell1 (a := ⟨w.heap.size, 0, none⟩) rfl _ rfl (run_loadVar_mid _ w.heap.size 0 _ (bv ds) _ (T4.out.fill (by rw [bv_len, bv_len, List.length_replicate, ← hds.out.eq, sha_len])).range Tryd.underlying35 rfl q1)) rfl ⟨rfl, setCells_below (Nat.le_refl _) _ _ B4.out⟩
set_option maxRecDepth 100000 in
set_option maxHeartbeats 2000000 in
theorem sum_nil (w : World) (hk : Hid (KeysAt w)) (ds : List Int) (hds : Hid (IsSha [] ds)) :
    Calls Tryd.prog 33 #[.slice none 0 0] w fun e w' => e = .returned (.agg (bv ds).toArray) ∧ Below w.heap.size w w' := by
  have hk0 := hk.out.1
  go_enter Tryd.func33, Tryd.ntmps33
  go_wp2_with fail
  refine (start_any _).mono ?_; rintro e w1 ⟨rfl, hb1⟩
  have hT := Lib.hid ((zeros32 w).below hb1 (by simp))
  have hB1 := Lib.hid ((bel_alloc1 w _).trans (hb1.mono (by simp)))
  clear hb1
  go_upto_region 4 with (fail)
  generalize hW : w1.alloc _ = W1
  have S1 := Lib.hid (show Blk W1 w1.heap.size (wv S8.h0.toList).toArray 68 by rw [← hW]; exact start8 w1)
  have T1 := Lib.hid (show Blk W1 w.heap.size (bv (List.replicate 32 0)).toArray 35 by rw [← hW]; exact hT.out.alloc _)
  have B1 := Lib.hid (show Below w.heap.size w W1 by rw [← hW]; exact hB1.out.alloc hB1.out.size _)
  have hlt : w.heap.size < w1.heap.size := hT.out.lt
  have hW1 : W1.heap.size = w1.heap.size + 1 := by rw [← hW]; simp
  clear hW hT hB1
  obtain ⟨sb, hsb⟩ : ∃ sb, w1.heap.size = sb := ⟨_, rfl⟩
  rw [hsb] at S1 hlt hW1 ⊢
  clear hsb
  go_wp2_with fail
  refine (pad_any none 0 0 [] 0 W1 (Lib.hid (.inl ⟨rfl, .inl ⟨rfl, rfl, rfl⟩⟩)) (by omega) (by omega) (lenB 0) (Lib.hid (isLen 0 (by omega))) (zerosN 0) (by decide)).mono ?_
  rintro e w2 ⟨v, rfl, hO, hb2⟩
  obtain ⟨T, hTT⟩ : ∃ T, ([].drop (64 * 0) ++ [128] ++ List.replicate (zerosN 0) 0) ++ lenB 0 = T := ⟨_, rfl⟩
  have hO' : Own8 w2 W1.heap.size v T := by rw [← hTT]; exact hO
  clear hO
  have HTT := Lib.hid hTT
  obtain ⟨pt, ct, rfl, hsrc, hct, hct2, hfresh⟩ := own8_src hO'
  obtain ⟨q2, hq4, hqp⟩ : ∃ q2, T.length = 64 * q2 ∧ 0 < q2 := by
    rw [← hTT]
    exact ⟨1, by rfl, by omega⟩
  have hTr := Lib.hid (show ∀ z ∈ T, 0 ≤ z ∧ z ≤ 255 by rw [← hTT]; exact tail_rng (by simp) 0)
  clear hTT hO'
  obtain ⟨_, ⟨rfl, h0, _⟩ | ⟨tb, toff, rfl, htb, hTb⟩⟩ := hsrc
  · omega
  have HTb := Lib.hid hTb
  have htb2 : sb < tb := by have := hfresh _ rfl; simp at this; omega
  have hct3 : ct ≤ 9223372036854775807 := by have : maxLen ≤ 9223372036854775807 := by decide
                                             omega
  rw [hq4] at hct ⊢
  have S2 := Lib.hid (S1.out.below hb2 S1.out.lt)
  have T2 := Lib.hid (T1.out.below hb2 T1.out.lt)
  have B2 := Lib.hid (B1.out.trans (hb2.mono B1.out.size))
  have HK2 := Lib.hid (hk.out.below B2.out)
  have hq5 := Lib.hid hq4
  clear hq4 hfresh hTb hb2 S1 T1 B1 hW1
  go_wp2_with fail
  go_loopw [7] (fun x wr => x = .int .i64 0 ∧ Hid (Blk wr sb (wv (blocksN S8.h0 [] 0).toList).toArray 68) ∧ Hid (w2.grownBy wr (some sb))) (fun x _ => 0)
  case atStart => exact ⟨rfl, S2, Lib.hid (gr_refl _ _)⟩
  case round =>
    clear S2
    obtain ⟨rfl, hS, hG⟩ := hrel
    go_wp2_with fail
    go_loopw [8] (fun x wr => ∃ i : Nat, i ≤ q2 ∧ x = .int .i64 (64 * (i : Int)) ∧ Hid (Blk wr sb (wv (blocksN (blocksN S8.h0 [] 0) T i).toList).toArray 68) ∧ Hid (w2.grownBy wr (some sb))) (fun x _ => 64 * q2 - (intOf x).toNat)
    case atStart => exact ⟨0, by omega, rfl, hS, hG⟩
    case round =>
      clear hS hG
      obtain ⟨i, hi, rfl, hS, hG⟩ := hrel
      by_cases hli : i < q2
      · have hbl : tb < wr.heap.size := Nat.lt_of_lt_of_le htb hG.out.size
        go_wp2_with fail
        refine (absorb_blk sb (blocksN (blocksN S8.h0 [] 0) T i) 68 tb (toff + 64 * i) (ct - 64 * i) ((T.drop (64 * i)).take 64) wr (Lib.hid ?b1) (by omega) (by omega) hbl (by omega) (Lib.hid ?b3) (Lib.hid ?b4) hS (Lib.hid (gr_keys hG.out HK2.out (by omega))) (by omega)).mono ?_
        case b1 => rw [List.length_take, List.length_drop]; have := hq5.out; omega
        case b3 => exact ((gr_bytes hG.out HTb.out htb (by omega)).drop (64 * i)).take 64
        case b4 => exact fun z hz => hTr.out z (List.mem_of_mem_drop (List.mem_of_mem_take hz))
        rintro e w3 ⟨rfl, hS3, hG3⟩
        have HS3 := Lib.hid hS3; have HG3 := Lib.hid (gr_trans hG.out hG3)
        clear hS3 hG3 hbl
        go_wp2_with fail
        go_roundw
        case rel => exact ⟨i + 1, by omega, by simp; omega, Lib.hid (by rw [blocksN_succ]; exact HS3.out), HG3⟩
        case measure => simp [intOf]; omega
      · obtain rfl : i = q2 := by omega
        have T3 := Lib.hid (gr_blk hG.out T2.out (by omega))
        have B3 := Lib.hid (bel_gr B2.out hG.out (by omega) B2.out.size)
        go_wp2_with fail
        refine (bytes_any sb (blocksN (blocksN S8.h0 [] 0) T i) 68 wr hS ds (Lib.hid ?e1)).mono ?_
        case e1 => rw [← hds.out.eq, sha_parts [] T 0 0 i rfl rfl HTT.out hq5.out]; exact isBytes _
        rintro e w4 ⟨rfl, hb4⟩
        have T4 := Lib.hid (T3.out.below hb4 T3.out.lt)
        have B4 := Lib.hid (B3.out.trans (hb4.mono B3.out.size))
        clear hb4
        have hd32 : ds.length = 32 := by rw [← hds.out.eq]; exact sha_len _
        have q1 := size32' ds hd32
        have q3 := size32 ds hd32
        have q4 : w4.there w.heap.size 0 (bv ds).toArray.size := by have := T4.out.there; simp only [bv_len, List.length_replicate] at this; simp only [List.size_toArray, bv_len, hd32]; exact this
        have q5 := all_oneCell_toArray (bv_one ds)
        clear hd32
        go_wp2_with (refine wpList_store_mid rfl 35 _ _ rfl w.heap.size 0 (bv ds).toArray rfl rfl q4 q3 q5 ?_)
        refine bodyPost_ret (v := .agg (bv ds).toArray) (results_cell1 (a := ⟨w.heap.size, 0, none⟩) rfl _ rfl (run_loadVar_mid _ w.heap.size 0 _ (bv ds) _ (T4.out.fill (by rw [bv_len, bv_len, List.length_replicate, ← hds.out.eq, sha_len])).range Tryd.underlying35 rfl q1)) rfl ⟨rfl, setCells_below (Nat.le_refl _) _ _ B4.out⟩

set_option maxRecDepth 100000 in
set_option maxHeartbeats 2000000 in
theorem sum_zero (ad : Addr) (w : World) (hk : Hid (KeysAt w)) (ds : List Int) (hds : Hid (IsSha [] ds)) :
    Calls Tryd.prog 33 #[.slice (some ad) 0 0] w fun e w' => e = .returned (.agg (bv ds).toArray) ∧ Below w.heap.size w w' := by
  have hk0 := hk.out.1
  go_enter Tryd.func33, Tryd.ntmps33
  go_wp2_with fail
  refine (start_any _).mono ?_; rintro e w1 ⟨rfl, hb1⟩
  have hT := Lib.hid ((zeros32 w).below hb1 (by simp))
  have hB1 := Lib.hid ((bel_alloc1 w _).trans (hb1.mono (by simp)))
  clear hb1
  go_upto_region 4 with (fail)
  generalize hW : w1.alloc _ = W1
  have S1 := Lib.hid (show Blk W1 w1.heap.size (wv S8.h0.toList).toArray 68 by rw [← hW]; exact start8 w1)
  have T1 := Lib.hid (show Blk W1 w.heap.size (bv (List.replicate 32 0)).toArray 35 by rw [← hW]; exact hT.out.alloc _)
  have B1 := Lib.hid (show Below w.heap.size w W1 by rw [← hW]; exact hB1.out.alloc hB1.out.size _)
  have hlt : w.heap.size < w1.heap.size := hT.out.lt
  have hW1 : W1.heap.size = w1.heap.size + 1 := by rw [← hW]; simp
  clear hW hT hB1
  obtain ⟨sb, hsb⟩ : ∃ sb, w1.heap.size = sb := ⟨_, rfl⟩
  rw [hsb] at S1 hlt hW1 ⊢
  clear hsb
  go_wp2_with fail
  refine (pad_any (some ad) 0 0 [] 0 W1 (Lib.hid (.inr ⟨rfl, rfl, rfl, ad, rfl⟩)) (by omega) (by omega) (lenB 0) (Lib.hid (isLen 0 (by omega))) (zerosN 0) (by decide)).mono ?_
  rintro e w2 ⟨v, rfl, hO, hb2⟩
  obtain ⟨T, hTT⟩ : ∃ T, ([].drop (64 * 0) ++ [128] ++ List.replicate (zerosN 0) 0) ++ lenB 0 = T := ⟨_, rfl⟩
  have hO' : Own8 w2 W1.heap.size v T := by rw [← hTT]; exact hO
  clear hO
  have HTT := Lib.hid hTT
  obtain ⟨pt, ct, rfl, hsrc, hct, hct2, hfresh⟩ := own8_src hO'
  obtain ⟨q2, hq4, hqp⟩ : ∃ q2, T.length = 64 * q2 ∧ 0 < q2 := by
    rw [← hTT]
    exact ⟨1, by rfl, by omega⟩
  have hTr := Lib.hid (show ∀ z ∈ T, 0 ≤ z ∧ z ≤ 255 by rw [← hTT]; exact tail_rng (by simp) 0)
  clear hTT hO'
  obtain ⟨_, ⟨rfl, h0, _⟩ | ⟨tb, toff, rfl, htb, hTb⟩⟩ := hsrc
  · omega
  have HTb := Lib.hid hTb
  have htb2 : sb < tb := by have := hfresh _ rfl; simp at this; omega
  have hct3 : ct ≤ 9223372036854775807 := by have : maxLen ≤ 9223372036854775807 := by decide
                                             omega
  rw [hq4] at hct ⊢
  have S2 := Lib.hid (S1.out.below hb2 S1.out.lt)
  have T2 := Lib.hid (T1.out.below hb2 T1.out.lt)
  have B2 := Lib.hid (B1.out.trans (hb2.mono B1.out.size))
  have HK2 := Lib.hid (hk.out.below B2.out)
  have hq5 := Lib.hid hq4
  clear hq4 hfresh hTb hb2 S1 T1 B1 hW1
  go_wp2_with fail
  go_loopw [7] (fun x wr => x = .int .i64 0 ∧ Hid (Blk wr sb (wv (blocksN S8.h0 [] 0).toList).toArray 68) ∧ Hid (w2.grownBy wr (some sb))) (fun x _ => 0)
  case atStart => exact ⟨rfl, S2, Lib.hid (gr_refl _ _)⟩
  case round =>
    clear S2
    obtain ⟨rfl, hS, hG⟩ := hrel
    go_wp2_with fail
    go_loopw [8] (fun x wr => ∃ i : Nat, i ≤ q2 ∧ x = .int .i64 (64 * (i : Int)) ∧ Hid (Blk wr sb (wv (blocksN (blocksN S8.h0 [] 0) T i).toList).toArray 68) ∧ Hid (w2.grownBy wr (some sb))) (fun x _ => 64 * q2 - (intOf x).toNat)
    case atStart => exact ⟨0, by omega, rfl, hS, hG⟩
    case round =>
      clear hS hG
      obtain ⟨i, hi, rfl, hS, hG⟩ := hrel
      by_cases hli : i < q2
      · have hbl : tb < wr.heap.size := Nat.lt_of_lt_of_le htb hG.out.size
        go_wp2_with fail
        refine (absorb_blk sb (blocksN (blocksN S8.h0 [] 0) T i) 68 tb (toff + 64 * i) (ct - 64 * i) ((T.drop (64 * i)).take 64) wr (Lib.hid ?b1) (by omega) (by omega) hbl (by omega) (Lib.hid ?b3) (Lib.hid ?b4) hS (Lib.hid (gr_keys hG.out HK2.out (by omega))) (by omega)).mono ?_
        case b1 => rw [List.length_take, List.length_drop]; have := hq5.out; omega
        case b3 => exact ((gr_bytes hG.out HTb.out htb (by omega)).drop (64 * i)).take 64
        case b4 => exact fun z hz => hTr.out z (List.mem_of_mem_drop (List.mem_of_mem_take hz))
        rintro e w3 ⟨rfl, hS3, hG3⟩
        have HS3 := Lib.hid hS3; have HG3 := Lib.hid (gr_trans hG.out hG3)
        clear hS3 hG3 hbl
        go_wp2_with fail
        go_roundw
        case rel => exact ⟨i + 1, by omega, by simp; omega, Lib.hid (by rw [blocksN_succ]; exact HS3.out), HG3⟩
        case measure => simp [intOf]; omega
      · obtain rfl : i = q2 := by omega
        have T3 := Lib.hid (gr_blk hG.out T2.out (by omega))
        have B3 := Lib.hid (bel_gr B2.out hG.out (by omega) B2.out.size)
        go_wp2_with fail
        refine (bytes_any sb (blocksN (blocksN S8.h0 [] 0) T i) 68 wr hS ds (Lib.hid ?e1)).mono ?_
        case e1 => rw [← hds.out.eq, sha_parts [] T 0 0 i rfl rfl HTT.out hq5.out]; exact isBytes _
        rintro e w4 ⟨rfl, hb4⟩
        have T4 := Lib.hid (T3.out.below hb4 T3.out.lt)
        have B4 := Lib.hid (B3.out.trans (hb4.mono B3.out.size))
        clear hb4
        have hd32 : ds.length = 32 := by rw [← hds.out.eq]; exact sha_len _
        have q1 := size32' ds hd32
        have q3 := size32 ds hd32
        have q4 : w4.there w.heap.size 0 (bv ds).toArray.size := by have := T4.out.there; simp only [bv_len, List.length_replicate] at this; simp only [List.size_toArray, bv_len, hd32]; exact this
        have q5 := all_oneCell_toArray (bv_one ds)
        clear hd32
        go_wp2_with (refine wpList_store_mid rfl 35 _ _ rfl w.heap.size 0 (bv ds).toArray rfl rfl q4 q3 q5 ?_)
        refine bodyPost_ret (v := .agg (bv ds).toArray) (results_cell1 (a := ⟨w.heap.size, 0, none⟩) rfl _ rfl (run_loadVar_mid _ w.heap.size 0 _ (bv ds) _ (T4.out.fill (by rw [bv_len, bv_len, List.length_replicate, ← hds.out.eq, sha_len])).range Tryd.underlying35 rfl q1)) rfl ⟨rfl, setCells_below (Nat.le_refl _) _ _ B4.out⟩

/-- the hash of any slice of bytes -/
theorem sum_any (p : Option Addr) (m cap : Nat) (bs : List Int) (w : World) (hz : Hid (SrcW w p m cap bs)) (hr : Hid (∀ z ∈ bs, 0 ≤ z ∧ z ≤ 255)) (hcap : m ≤ cap) (hmax : cap ≤ 9223372036854775807) (hn : m ≤ 1000000000) (hk : Hid (KeysAt w)) (ds : List Int) (hds : Hid (IsSha bs ds)) :
    Calls Tryd.prog 33 #[.slice p m cap] w fun e w' => e = .returned (.agg (bv ds).toArray) ∧ Below w.heap.size w w' := by
  obtain ⟨hm, ⟨rfl, h0, rfl⟩ | ⟨b, off, rfl, hb, hc⟩⟩ | ⟨rfl, rfl, rfl, ad, rfl⟩ := hz.out
  · have hbs : bs = [] := List.eq_nil_of_length_eq_zero (by omega)
    subst hbs
    subst h0
    exact sum_nil w hk ds hds
  · by_cases hq : 64 * (m / 64) < cap
    · exact sum_part b off m cap (m / 64) bs w (Lib.hid hc) (Lib.hid hm) hb hr hcap rfl hq hmax hn hk ds hds
    · obtain ⟨q, rfl⟩ : ∃ q, m = 64 * q := ⟨m / 64, by omega⟩
      obtain rfl : cap = 64 * q := by omega
      exact sum_full b off q bs w (Lib.hid hc) (Lib.hid hm) hb hr hn hk ds hds
  · exact sum_zero ad w hk ds hds
end Go.Proofs.YtllcgehfmkmcdaaDoor
