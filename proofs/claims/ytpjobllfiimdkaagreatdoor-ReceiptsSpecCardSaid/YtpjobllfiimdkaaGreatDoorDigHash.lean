/- group.Hash: eight bytes of a digest, without the highest bit, modulo Q. -/
import Derived.Test.YtpjobllfiimdkaaGreatDoorDigTag
namespace Go.Proofs.YtpjobllfiimdkaaGreatDoor
open Go.RowKit
set_option linter.unusedVariables false
set_option linter.unusedSimpArgs false

def hacc (ys : List Int) : Nat → Int
  | 0 => 0
  | k + 1 => hacc ys k * 256 + ys.getD k 0
theorem hacc_succ {ys : List Int} {k : Nat} {y : Int} (h : ys.getD k 0 = y) : hacc ys k * 256 + y = hacc ys (k + 1) := by rw [← h]; rfl
def low7 (ds : List Int) : List Int := ds.set 0 (ds.getD 0 0 % 128)
def hashZ (ds : List Int) : Int := hacc (low7 ds) 8 % 1073741789
def bndL : List Int := [1, 128, 32768, 8388608, 2147483648, 549755813888, 140737488355328, 36028797018963968, 9223372036854775808]
theorem or64 (n x : Int) (h0 : 0 ≤ n) (h1 : n < 36028797018963968) (x0 : 0 ≤ x) (x1 : x ≤ 255) : bits .or .i64 (n * 256) x = n * 256 + x := by
  obtain ⟨N, rfl⟩ := Int.eq_ofNat_of_zero_le h0
  obtain ⟨X, rfl⟩ := Int.eq_ofNat_of_zero_le x0
  have e : ((N : Int) * 256) = ((N * 256 : Nat) : Int) := by simp
  show IntKind.i64.wrap ((BitVec.ofInt 64 ((N : Int) * 256) ||| BitVec.ofInt 64 (X : Int)).toNat : Int) = _
  rw [e, BitVec.toNat_or, BitVec.ofInt_natCast, BitVec.ofInt_natCast, BitVec.toNat_ofNat, BitVec.toNat_ofNat, Nat.mod_eq_of_lt (by omega), Nat.mod_eq_of_lt (by omega), nat_join 8 (N * 256) X (by omega) (by omega), IntKind.wrap_i64]
  omega
theorem and127 (x : Int) (h0 : 0 ≤ x) (h1 : x ≤ 255) : bits .and .u8 x 127 = x % 128 := by
  obtain ⟨X, rfl⟩ := Int.eq_ofNat_of_zero_le h0
  have e : (127 : Int) = ((127 : Nat) : Int) := rfl
  rw [e, u8_and_nat X 127 (by omega) (by omega), show (127 : Nat) = 2 ^ 7 - 1 from rfl, Nat.and_two_pow_sub_one_eq_mod]
  omega
theorem low7_rng {ds : List Int} (h : ∀ z ∈ ds, 0 ≤ z ∧ z ≤ 255) (k : Nat) : 0 ≤ (low7 ds).getD k 0 ∧ (low7 ds).getD k 0 ≤ 255 := by
  apply getD_rng
  intro z hz
  rcases List.mem_or_eq_of_mem_set hz with hz | rfl
  · exact h z hz
  · have := getD_rng h 0; omega
theorem low7_0 {ds : List Int} (hl : ds.length = 32) : (low7 ds).getD 0 0 = ds.getD 0 0 % 128 := by
  unfold low7
  rw [List.getD_eq_getElem?_getD, List.getElem?_set_self (by omega)]; rfl

set_option maxRecDepth 100000 in
set_option maxHeartbeats 2000000 in
theorem hash_any (s : ByteArray) (p : Option Addr) (m cap : Nat) (bs : List Int) (w : World) (hz : Hid (SrcW w p m cap bs)) (hr : Hid (∀ z ∈ bs, 0 ≤ z ∧ z ≤ 255)) (hs : s.size ≤ 100000000) (hn : m ≤ 100000000) (hk : Hid (KeysAt w)) (ts ds : List Int) (hts : Hid (IsSha (strL s) ts)) (hds : Hid (IsSha (ts ++ bs) ds)) :
    Calls Tryz.prog 37 #[.string s, .slice p m cap] w fun e w' => e = .returned (.int .i64 (hashZ ds)) ∧ Below w.heap.size w w' := by
  go_enter Tryz.func37, Tryz.ntmps37
  go_wp2_with fail
  refine (tagged_any s p m cap bs w hz hr hs hn hk ts ds hts hds).mono ?_; rintro e w1 ⟨rfl, hb1⟩
  have B1 := Lib.hid hb1
  clear hb1
  have hd32 : ds.length = 32 := by rw [← hds.out.eq]; exact sha_len _
  have hdr : ∀ z ∈ ds, 0 ≤ z ∧ z ≤ 255 := by rw [← hds.out.eq]; exact sha_rng _
  have q3 := size32 ds hd32
  have q4 : (w1.alloc (.cells #[.int .u8 0, .int .u8 0, .int .u8 0, .int .u8 0, .int .u8 0, .int .u8 0, .int .u8 0, .int .u8 0, .int .u8 0, .int .u8 0, .int .u8 0, .int .u8 0, .int .u8 0, .int .u8 0, .int .u8 0, .int .u8 0, .int .u8 0, .int .u8 0, .int .u8 0, .int .u8 0, .int .u8 0, .int .u8 0, .int .u8 0, .int .u8 0, .int .u8 0, .int .u8 0, .int .u8 0, .int .u8 0, .int .u8 0, .int .u8 0, .int .u8 0, .int .u8 0] 27)).there w1.heap.size 0 (bv ds).toArray.size := by have := (zeros32 w1).there; simp only [bv_len, List.length_replicate] at this; simp only [List.size_toArray, bv_len, hd32]; exact this
  have q5 := all_oneCell_toArray (bv_one ds)
  go_upto_region 2 with (refine wpList_store_mid rfl 27 _ _ rfl w1.heap.size 0 (bv ds).toArray rfl rfl q4 q3 q5 ?_)
  simp only [Act.put]
  generalize hW4 : World.setCells _ _ _ _ = W4
  have A4 := Lib.hid (show Blk W4 w1.heap.size (bv ds).toArray 27 by rw [← hW4]; exact (zeros32 w1).fill (by rw [bv_len, bv_len, hd32, List.length_replicate]))
  have B4 := Lib.hid (show Below w.heap.size w W4 by rw [← hW4]; exact setCells_below B1.out.size _ _ (B1.out.alloc B1.out.size _))
  have la := A4.out.lt
  have lb : w.heap.size ≤ w1.heap.size := B1.out.size
  clear hW4 q3 q4 q5 B1
  obtain ⟨ab, hab⟩ : ∃ ab, w1.heap.size = ab := ⟨_, rfl⟩
  rw [hab] at A4 la lb ⊢
  clear hab
  have e0 := A4.out.cell 0
  rw [bv_get ds 0 (by omega)] at e0
  have f0 := A4.out.frozen 0
  have g0 := getD_rng hdr 0
  have hand := and127 (ds.getD 0 0) g0.1 g0.2
  have A5 := A4.out.set 0 (.int .u8 (ds.getD 0 0 % 128))
  rw [bv_set] at A5
  have HY0 := Lib.hid (low7_0 hd32)
  have HL := Lib.hid (show (low7 ds).length = 32 by unfold low7; rw [List.length_set]; exact hd32)
  have HYr := Lib.hid (low7_rng hdr)
  change Blk _ ab (bv (low7 ds)).toArray _ at A5
  have H5 := Lib.hid A5
  have HD : Hid (hashZ ds = hacc (low7 ds) 8 % 1073741789) := Lib.hid rfl
  generalize low7 ds = ys at H5 HY0 HL HYr HD
  generalize ds.getD 0 0 = d0 at e0 hand HY0 H5
  clear A5 g0 hd32 hdr
  go_upto_region 3 with (fail)
  generalize hW5 : W4.setCell _ _ = W5
  have K5 := Lib.hid (show Blk W5 ab (bv ys).toArray 27 by rw [← hW5]; exact H5.out)
  have B5 := Lib.hid (show Below w.heap.size w W5 by rw [← hW5]; exact B4.out.setCell (p := ⟨ab, 0, none⟩) lb _)
  clear hW5 H5 B4 e0 f0 hand la A4
  obtain ⟨y0, hy0'⟩ : ∃ y, ys.getD 0 0 = y := ⟨_, rfl⟩
  have e0 := K5.out.cell 0
  rw [bv_get ys 0 (by have := HL.out; omega), hy0'] at e0
  have r0 := HYr.out 0
  rw [hy0'] at r0
  have hy0 := Lib.hid hy0'
  clear hy0'
  obtain ⟨y1, hy1'⟩ : ∃ y, ys.getD 1 0 = y := ⟨_, rfl⟩
  have e1 := K5.out.cell 1
  rw [bv_get ys 1 (by have := HL.out; omega), hy1'] at e1
  have r1 := HYr.out 1
  rw [hy1'] at r1
  have hy1 := Lib.hid hy1'
  clear hy1'
  obtain ⟨y2, hy2'⟩ : ∃ y, ys.getD 2 0 = y := ⟨_, rfl⟩
  have e2 := K5.out.cell 2
  rw [bv_get ys 2 (by have := HL.out; omega), hy2'] at e2
  have r2 := HYr.out 2
  rw [hy2'] at r2
  have hy2 := Lib.hid hy2'
  clear hy2'
  obtain ⟨y3, hy3'⟩ : ∃ y, ys.getD 3 0 = y := ⟨_, rfl⟩
  have e3 := K5.out.cell 3
  rw [bv_get ys 3 (by have := HL.out; omega), hy3'] at e3
  have r3 := HYr.out 3
  rw [hy3'] at r3
  have hy3 := Lib.hid hy3'
  clear hy3'
  obtain ⟨y4, hy4'⟩ : ∃ y, ys.getD 4 0 = y := ⟨_, rfl⟩
  have e4 := K5.out.cell 4
  rw [bv_get ys 4 (by have := HL.out; omega), hy4'] at e4
  have r4 := HYr.out 4
  rw [hy4'] at r4
  have hy4 := Lib.hid hy4'
  clear hy4'
  obtain ⟨y5, hy5'⟩ : ∃ y, ys.getD 5 0 = y := ⟨_, rfl⟩
  have e5 := K5.out.cell 5
  rw [bv_get ys 5 (by have := HL.out; omega), hy5'] at e5
  have r5 := HYr.out 5
  rw [hy5'] at r5
  have hy5 := Lib.hid hy5'
  clear hy5'
  obtain ⟨y6, hy6'⟩ : ∃ y, ys.getD 6 0 = y := ⟨_, rfl⟩
  have e6 := K5.out.cell 6
  rw [bv_get ys 6 (by have := HL.out; omega), hy6'] at e6
  have r6 := HYr.out 6
  rw [hy6'] at r6
  have hy6 := Lib.hid hy6'
  clear hy6'
  obtain ⟨y7, hy7'⟩ : ∃ y, ys.getD 7 0 = y := ⟨_, rfl⟩
  have e7 := K5.out.cell 7
  rw [bv_get ys 7 (by have := HL.out; omega), hy7'] at e7
  have r7 := HYr.out 7
  rw [hy7'] at r7
  have hy7 := Lib.hid hy7'
  clear hy7'
  have hb0 : Hid (y0 ≤ 127) := Lib.hid (by have h1 := HY0.out; have h2 := hy0.out; rw [h1] at h2; omega)
  go_wp2_with fail
  go_loop [4, 14] (fun x i => ∃ (k : Nat) (n : Int), k ≤ 8 ∧ i = .int .i64 k ∧ x = .int .i64 n ∧ 0 ≤ n ∧ n = hacc ys k ∧ Hid (n < bndL.getD k 0)) (fun _ i => 8 - (intOf i).toNat)
  case atStart => exact ⟨0, 0, by omega, rfl, rfl, by omega, rfl, Lib.hid (by decide)⟩
  case round =>
    obtain ⟨k, n, hk8, rfl, rfl, n0, hn, hbd⟩ := hrel
    by_cases hlt : k < 8
    · rcases (by omega : k = 0 ∨ k = 1 ∨ k = 2 ∨ k = 3 ∨ k = 4 ∨ k = 5 ∨ k = 6 ∨ k = 7) with rfl | rfl | rfl | rfl | rfl | rfl | rfl | rfl
      · have hb := hbd.out; rw [show bndL.getD 0 0 = 1 from rfl] at hb
        have hor := or64 n y0 n0 (by omega) r0.1 r0.2
        have HN := Lib.hid hn
        have HR := Lib.hid r0
        clear hn
        go_wp2_with fail
        go_round
        case rel => exact ⟨0 + 1, n * 256 + y0, by omega, rfl, rfl, by have := HR.out; omega, by rw [HN.out]; exact hacc_succ hy0.out, Lib.hid (by rw [show bndL.getD (0 + 1) 0 = 128 from rfl]; have := hb0.out; omega)⟩
        case measure => simp [intOf]
      · have hb := hbd.out; rw [show bndL.getD 1 0 = 128 from rfl] at hb
        have hor := or64 n y1 n0 (by omega) r1.1 r1.2
        have HN := Lib.hid hn
        have HR := Lib.hid r1
        clear hn
        go_wp2_with fail
        go_round
        case rel => exact ⟨1 + 1, n * 256 + y1, by omega, rfl, rfl, by have := HR.out; omega, by rw [HN.out]; exact hacc_succ hy1.out, Lib.hid (by rw [show bndL.getD (1 + 1) 0 = 32768 from rfl]; have := hb0.out; omega)⟩
        case measure => simp [intOf]
      · have hb := hbd.out; rw [show bndL.getD 2 0 = 32768 from rfl] at hb
        have hor := or64 n y2 n0 (by omega) r2.1 r2.2
        have HN := Lib.hid hn
        have HR := Lib.hid r2
        clear hn
        go_wp2_with fail
        go_round
        case rel => exact ⟨2 + 1, n * 256 + y2, by omega, rfl, rfl, by have := HR.out; omega, by rw [HN.out]; exact hacc_succ hy2.out, Lib.hid (by rw [show bndL.getD (2 + 1) 0 = 8388608 from rfl]; have := hb0.out; omega)⟩
        case measure => simp [intOf]
      · have hb := hbd.out; rw [show bndL.getD 3 0 = 8388608 from rfl] at hb
        have hor := or64 n y3 n0 (by omega) r3.1 r3.2
        have HN := Lib.hid hn
        have HR := Lib.hid r3
        clear hn
        go_wp2_with fail
        go_round
        case rel => exact ⟨3 + 1, n * 256 + y3, by omega, rfl, rfl, by have := HR.out; omega, by rw [HN.out]; exact hacc_succ hy3.out, Lib.hid (by rw [show bndL.getD (3 + 1) 0 = 2147483648 from rfl]; have := hb0.out; omega)⟩
        case measure => simp [intOf]
      · have hb := hbd.out; rw [show bndL.getD 4 0 = 2147483648 from rfl] at hb
        have hor := or64 n y4 n0 (by omega) r4.1 r4.2
        have HN := Lib.hid hn
        have HR := Lib.hid r4
        clear hn
        go_wp2_with fail
        go_round
        case rel => exact ⟨4 + 1, n * 256 + y4, by omega, rfl, rfl, by have := HR.out; omega, by rw [HN.out]; exact hacc_succ hy4.out, Lib.hid (by rw [show bndL.getD (4 + 1) 0 = 549755813888 from rfl]; have := hb0.out; omega)⟩
        case measure => simp [intOf]
      · have hb := hbd.out; rw [show bndL.getD 5 0 = 549755813888 from rfl] at hb
        have hor := or64 n y5 n0 (by omega) r5.1 r5.2
        have HN := Lib.hid hn
        have HR := Lib.hid r5
        clear hn
        go_wp2_with fail
        go_round
        case rel => exact ⟨5 + 1, n * 256 + y5, by omega, rfl, rfl, by have := HR.out; omega, by rw [HN.out]; exact hacc_succ hy5.out, Lib.hid (by rw [show bndL.getD (5 + 1) 0 = 140737488355328 from rfl]; have := hb0.out; omega)⟩
        case measure => simp [intOf]
      · have hb := hbd.out; rw [show bndL.getD 6 0 = 140737488355328 from rfl] at hb
        have hor := or64 n y6 n0 (by omega) r6.1 r6.2
        have HN := Lib.hid hn
        have HR := Lib.hid r6
        clear hn
        go_wp2_with fail
        go_round
        case rel => exact ⟨6 + 1, n * 256 + y6, by omega, rfl, rfl, by have := HR.out; omega, by rw [HN.out]; exact hacc_succ hy6.out, Lib.hid (by rw [show bndL.getD (6 + 1) 0 = 36028797018963968 from rfl]; have := hb0.out; omega)⟩
        case measure => simp [intOf]
      · have hb := hbd.out; rw [show bndL.getD 7 0 = 36028797018963968 from rfl] at hb
        have hor := or64 n y7 n0 (by omega) r7.1 r7.2
        have HN := Lib.hid hn
        have HR := Lib.hid r7
        clear hn
        go_wp2_with fail
        go_round
        case rel => exact ⟨7 + 1, n * 256 + y7, by omega, rfl, rfl, by have := HR.out; omega, by rw [HN.out]; exact hacc_succ hy7.out, Lib.hid (by rw [show bndL.getD (7 + 1) 0 = 9223372036854775808 from rfl]; have := hb0.out; omega)⟩
        case measure => simp [intOf]
    · obtain rfl : k = 8 := by omega
      have HN := Lib.hid hn
      have hb := hbd.out
      rw [show bndL.getD 8 0 = 9223372036854775808 from rfl] at hb
      clear hn
      go_wp2_with fail
      go_ret
      exact ⟨ret_int (by rw [HD.out, ← HN.out]), B5.out⟩
end Go.Proofs.YtpjobllfiimdkaaGreatDoor
