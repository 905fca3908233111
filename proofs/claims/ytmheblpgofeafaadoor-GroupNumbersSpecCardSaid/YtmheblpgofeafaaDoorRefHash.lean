/- The reference of layer 9: Hash, Element, Number. -/
import Derived.Test.YtmheblpgofeafaaDoorRefTag
import Derived.Test.YtmheblpgofeafaaDoorDigHash
import Derived.Test.YtmheblpgofeafaaDoorGroupFacts
namespace Go.Proofs.YtmheblpgofeafaaDoor
open Go.RowKit
set_option linter.unusedVariables false
set_option linter.unusedSimpArgs false

theorem low7_n {ds : List Int} {k : Nat} (hk : 0 < k) : (low7 ds).getD k 0 = ds.getD k 0 := by
  unfold low7
  rw [List.getD_eq_getElem?_getD, List.getElem?_set_ne (by omega), ← List.getD_eq_getElem?_getD]
set_option maxRecDepth 100000 in
set_option maxHeartbeats 2000000 in
theorem rhash_any (s : ByteArray) (p : Option Addr) (m cap : Nat) (bs : List Int) (w : World) (hz : Hid (SrcW w p m cap bs)) (hr : Hid (∀ z ∈ bs, 0 ≤ z ∧ z ≤ 255)) (hs : s.size ≤ 100000000) (hn : m ≤ 100000000) (ts ds : List Int) (hts : Hid (IsSha (strL s) ts)) (hds : Hid (IsSha (ts ++ bs) ds)) :
    Calls Tryd.prog 35 #[.string s, .slice p m cap] w fun e w' => e = .returned (.int .i64 (hashZ ds)) ∧ Below w.heap.size w w' := by
  go_enter Tryd.func35, Tryd.ntmps35
  go_wp2_with fail
  refine (rtagged_any s p m cap bs w hz hr hs hn ts ds hts hds).mono ?_; rintro e w1 ⟨rfl, hb1⟩
  have B1 := Lib.hid hb1
  clear hb1
  have hd32 : ds.length = 32 := by rw [← hds.out.eq]; exact sha_len _
  have hdr : ∀ z ∈ ds, 0 ≤ z ∧ z ≤ 255 := by rw [← hds.out.eq]; exact sha_rng _
  have q3 := size32 ds hd32
  have q4 : (w1.alloc (.cells #[.int .u8 0, .int .u8 0, .int .u8 0, .int .u8 0, .int .u8 0, .int .u8 0, .int .u8 0, .int .u8 0, .int .u8 0, .int .u8 0, .int .u8 0, .int .u8 0, .int .u8 0, .int .u8 0, .int .u8 0, .int .u8 0, .int .u8 0, .int .u8 0, .int .u8 0, .int .u8 0, .int .u8 0, .int .u8 0, .int .u8 0, .int .u8 0, .int .u8 0, .int .u8 0, .int .u8 0, .int .u8 0, .int .u8 0, .int .u8 0, .int .u8 0, .int .u8 0] 26)).there w1.heap.size 0 (bv ds).toArray.size := by have := (zeros32 w1).there; simp only [bv_len, List.length_replicate] at this; simp only [List.size_toArray, bv_len, hd32]; exact this
  have q5 := all_oneCell_toArray (bv_one ds)
  go_upto_region 2 with (refine wpList_store_mid rfl 26 _ _ rfl w1.heap.size 0 (bv ds).toArray rfl rfl q4 q3 q5 ?_)
  simp only [Act.put]
  generalize hW4 : World.setCells _ _ _ _ = W4
  have A4 := Lib.hid (show Blk W4 w1.heap.size (bv ds).toArray 26 by rw [← hW4]; exact (zeros32 w1).fill (by rw [bv_len, bv_len, hd32, List.length_replicate]))
  have B4 := Lib.hid (show Below w.heap.size w W4 by rw [← hW4]; exact setCells_below B1.out.size _ _ (B1.out.alloc B1.out.size _))
  clear hW4 q3 q4 q5 B1
  obtain ⟨ab, hab⟩ : ∃ ab, w1.heap.size = ab := ⟨_, rfl⟩
  rw [hab] at A4 ⊢
  clear hab
  obtain ⟨d0, hd0⟩ : ∃ y, ds.getD 0 0 = y := ⟨_, rfl⟩
  have e0 := A4.out.cell 0
  rw [bv_get ds 0 (by omega), hd0] at e0
  have r0 := getD_rng hdr 0
  rw [hd0] at r0
  have HY0 := Lib.hid (show (low7 ds).getD 0 0 = d0 % 128 by rw [low7_0 hd32, hd0])
  clear hd0
  obtain ⟨y1, hy1'⟩ : ∃ y, ds.getD 1 0 = y := ⟨_, rfl⟩
  have e1 := A4.out.cell 1
  rw [bv_get ds 1 (by omega), hy1'] at e1
  have r1 := getD_rng hdr 1
  rw [hy1'] at r1
  have hy1 := Lib.hid (show (low7 ds).getD 1 0 = y1 by rw [low7_n (by omega)]; exact hy1')
  clear hy1'
  obtain ⟨y2, hy2'⟩ : ∃ y, ds.getD 2 0 = y := ⟨_, rfl⟩
  have e2 := A4.out.cell 2
  rw [bv_get ds 2 (by omega), hy2'] at e2
  have r2 := getD_rng hdr 2
  rw [hy2'] at r2
  have hy2 := Lib.hid (show (low7 ds).getD 2 0 = y2 by rw [low7_n (by omega)]; exact hy2')
  clear hy2'
  obtain ⟨y3, hy3'⟩ : ∃ y, ds.getD 3 0 = y := ⟨_, rfl⟩
  have e3 := A4.out.cell 3
  rw [bv_get ds 3 (by omega), hy3'] at e3
  have r3 := getD_rng hdr 3
  rw [hy3'] at r3
  have hy3 := Lib.hid (show (low7 ds).getD 3 0 = y3 by rw [low7_n (by omega)]; exact hy3')
  clear hy3'
  obtain ⟨y4, hy4'⟩ : ∃ y, ds.getD 4 0 = y := ⟨_, rfl⟩
  have e4 := A4.out.cell 4
  rw [bv_get ds 4 (by omega), hy4'] at e4
  have r4 := getD_rng hdr 4
  rw [hy4'] at r4
  have hy4 := Lib.hid (show (low7 ds).getD 4 0 = y4 by rw [low7_n (by omega)]; exact hy4')
  clear hy4'
  obtain ⟨y5, hy5'⟩ : ∃ y, ds.getD 5 0 = y := ⟨_, rfl⟩
  have e5 := A4.out.cell 5
  rw [bv_get ds 5 (by omega), hy5'] at e5
  have r5 := getD_rng hdr 5
  rw [hy5'] at r5
  have hy5 := Lib.hid (show (low7 ds).getD 5 0 = y5 by rw [low7_n (by omega)]; exact hy5')
  clear hy5'
  obtain ⟨y6, hy6'⟩ : ∃ y, ds.getD 6 0 = y := ⟨_, rfl⟩
  have e6 := A4.out.cell 6
  rw [bv_get ds 6 (by omega), hy6'] at e6
  have r6 := getD_rng hdr 6
  rw [hy6'] at r6
  have hy6 := Lib.hid (show (low7 ds).getD 6 0 = y6 by rw [low7_n (by omega)]; exact hy6')
  clear hy6'
  obtain ⟨y7, hy7'⟩ : ∃ y, ds.getD 7 0 = y := ⟨_, rfl⟩
  have e7 := A4.out.cell 7
  rw [bv_get ds 7 (by omega), hy7'] at e7
  have r7 := getD_rng hdr 7
  rw [hy7'] at r7
  have hy7 := Lib.hid (show (low7 ds).getD 7 0 = y7 by rw [low7_n (by omega)]; exact hy7')
  clear hy7'
  have HD : Hid (hashZ ds = hacc (low7 ds) 8 % 1073741789) := Lib.hid rfl
  generalize low7 ds = ys at *
  clear hd32 hdr
  go_wp2_with fail
  go_loop [6, 7] (fun x i => ∃ (k : Nat) (n : Int), 1 ≤ k ∧ k ≤ 8 ∧ i = .int .i64 k ∧ x = .int .i64 n ∧ 0 ≤ n ∧ n = hacc ys k ∧ Hid (n < bndL.getD k 0)) (fun _ i => 8 - (intOf i).toNat)
  case atStart => exact ⟨1, d0 % 128, by omega, by omega, rfl, rfl, by omega, by have h := HY0.out; show _ = hacc ys 0 * 256 + ys.getD 0 0; rw [h]; show _ = (0 : Int) * 256 + _; omega, Lib.hid (by rw [show bndL.getD 1 0 = 128 from rfl]; omega)⟩
  case round =>
    obtain ⟨k, n, hk1, hk8, rfl, rfl, n0, hn, hbd⟩ := hrel
    by_cases hlt : k < 8
    · rcases (by omega : k = 1 ∨ k = 2 ∨ k = 3 ∨ k = 4 ∨ k = 5 ∨ k = 6 ∨ k = 7) with rfl | rfl | rfl | rfl | rfl | rfl | rfl
      · have hb := hbd.out
        rw [show bndL.getD 1 0 = 128 from rfl] at hb
        have HN := Lib.hid hn
        have HR := Lib.hid r1
        clear hn
        go_wp2_with fail
        go_round
        case rel => exact ⟨1 + 1, n * 256 + y1, by omega, by omega, rfl, rfl, by have := HR.out; omega, by rw [HN.out]; exact hacc_succ hy1.out, Lib.hid (by rw [show bndL.getD (1 + 1) 0 = 32768 from rfl]; have := HR.out; omega)⟩
        case measure => simp [intOf]
      · have hb := hbd.out
        rw [show bndL.getD 2 0 = 32768 from rfl] at hb
        have HN := Lib.hid hn
        have HR := Lib.hid r2
        clear hn
        go_wp2_with fail
        go_round
        case rel => exact ⟨2 + 1, n * 256 + y2, by omega, by omega, rfl, rfl, by have := HR.out; omega, by rw [HN.out]; exact hacc_succ hy2.out, Lib.hid (by rw [show bndL.getD (2 + 1) 0 = 8388608 from rfl]; have := HR.out; omega)⟩
        case measure => simp [intOf]
      · have hb := hbd.out
        rw [show bndL.getD 3 0 = 8388608 from rfl] at hb
        have HN := Lib.hid hn
        have HR := Lib.hid r3
        clear hn
        go_wp2_with fail
        go_round
        case rel => exact ⟨3 + 1, n * 256 + y3, by omega, by omega, rfl, rfl, by have := HR.out; omega, by rw [HN.out]; exact hacc_succ hy3.out, Lib.hid (by rw [show bndL.getD (3 + 1) 0 = 2147483648 from rfl]; have := HR.out; omega)⟩
        case measure => simp [intOf]
      · have hb := hbd.out
        rw [show bndL.getD 4 0 = 2147483648 from rfl] at hb
        have HN := Lib.hid hn
        have HR := Lib.hid r4
        clear hn
        go_wp2_with fail
        go_round
        case rel => exact ⟨4 + 1, n * 256 + y4, by omega, by omega, rfl, rfl, by have := HR.out; omega, by rw [HN.out]; exact hacc_succ hy4.out, Lib.hid (by rw [show bndL.getD (4 + 1) 0 = 549755813888 from rfl]; have := HR.out; omega)⟩
        case measure => simp [intOf]
      · have hb := hbd.out
        rw [show bndL.getD 5 0 = 549755813888 from rfl] at hb
        have HN := Lib.hid hn
        have HR := Lib.hid r5
        clear hn
        go_wp2_with fail
        go_round
        case rel => exact ⟨5 + 1, n * 256 + y5, by omega, by omega, rfl, rfl, by have := HR.out; omega, by rw [HN.out]; exact hacc_succ hy5.out, Lib.hid (by rw [show bndL.getD (5 + 1) 0 = 140737488355328 from rfl]; have := HR.out; omega)⟩
        case measure => simp [intOf]
      · have hb := hbd.out
        rw [show bndL.getD 6 0 = 140737488355328 from rfl] at hb
        have HN := Lib.hid hn
        have HR := Lib.hid r6
        clear hn
        go_wp2_with fail
        go_round
        case rel => exact ⟨6 + 1, n * 256 + y6, by omega, by omega, rfl, rfl, by have := HR.out; omega, by rw [HN.out]; exact hacc_succ hy6.out, Lib.hid (by rw [show bndL.getD (6 + 1) 0 = 36028797018963968 from rfl]; have := HR.out; omega)⟩
        case measure => simp [intOf]
      · have hb := hbd.out
        rw [show bndL.getD 7 0 = 36028797018963968 from rfl] at hb
        have HN := Lib.hid hn
        have HR := Lib.hid r7
        clear hn
        go_wp2_with fail
        go_round
        case rel => exact ⟨7 + 1, n * 256 + y7, by omega, by omega, rfl, rfl, by have := HR.out; omega, by rw [HN.out]; exact hacc_succ hy7.out, Lib.hid (by rw [show bndL.getD (7 + 1) 0 = 9223372036854775808 from rfl]; have := HR.out; omega)⟩
        case measure => simp [intOf]
    · obtain rfl : k = 8 := by omega
      have HN := Lib.hid hn
      have hb := hbd.out
      rw [show bndL.getD 8 0 = 9223372036854775808 from rfl] at hb
      clear hn
      go_wp2_with fail
      go_ret
      exact ⟨ret_int (by rw [HD.out, ← HN.out]), B4.out⟩
/-- the loop's state: product, square and rest give the power -/
def PwState (a n : Nat) (c s r : Int) : Prop :=
  0 ≤ c ∧ c < 2147483579 ∧ 0 ≤ s ∧ s < 2147483579 ∧ 0 ≤ r ∧ (c.toNat * s.toNat ^ r.toNat) % 2147483579 = powN a n

theorem pw_end {a n : Nat} {c s : Int} (h : PwState a n c s 0) : c = (powN a n : Int) := by
  obtain ⟨h1, h2, _, _, _, h⟩ := h
  have : c.toNat = powN a n := by rw [← h]; simp; omega
  omega

theorem pw_even {a n : Nat} {c s r : Int} (h : PwState a n c s r) (hr : 0 < r) (e : r % 2 ≠ 1) : PwState a n c (s * s % 2147483579) (r / 2) := by
  obtain ⟨h1, h2, h3, h4, h5, h6⟩ := h
  refine ⟨h1, h2, Int.emod_nonneg _ (by omega), Int.emod_lt_of_pos _ (by omega), by omega, ?_⟩
  rw [← h6]
  have e2 : (s * s % 2147483579).toNat = (s.toNat * s.toNat) % 2147483579 := by
    rw [toNat_mod (Int.mul_nonneg h3 h3) (by omega), toNat_mul h3 h3]; rfl
  have e3 : (r / 2).toNat = r.toNat / 2 := by omega
  have er : r.toNat = 2 * (r.toNat / 2) := by omega
  rw [e2, e3, Nat.mul_mod, ← Nat.pow_mod, ← Nat.mul_mod]
  conv => rhs; rw [er, Nat.pow_mul, Nat.pow_two]

theorem pw_odd {a n : Nat} {c s r : Int} (h : PwState a n c s r) (hr : 0 < r) (e : r % 2 = 1) : PwState a n (c * s % 2147483579) (s * s % 2147483579) (r / 2) := by
  obtain ⟨h1, h2, h3, h4, h5, h6⟩ := h
  refine ⟨Int.emod_nonneg _ (by omega), Int.emod_lt_of_pos _ (by omega), Int.emod_nonneg _ (by omega), Int.emod_lt_of_pos _ (by omega), by omega, ?_⟩
  rw [← h6]
  have e2 : (s * s % 2147483579).toNat = (s.toNat * s.toNat) % 2147483579 := by
    rw [toNat_mod (Int.mul_nonneg h3 h3) (by omega), toNat_mul h3 h3]; rfl
  have e3 : (r / 2).toNat = r.toNat / 2 := by omega
  have er : r.toNat = 2 * (r.toNat / 2) + 1 := by omega
  rw [e2, e3, toNat_mod (Int.mul_nonneg h1 h3) (by omega), toNat_mul h1 h3, Nat.mul_mod, ← Nat.pow_mod, ← Nat.mul_mod]
  conv => rhs; rw [er, Nat.pow_succ, Nat.pow_mul, Nat.pow_two]
  show (c.toNat * s.toNat % 2147483579 * (s.toNat * s.toNat) ^ (r.toNat / 2)) % 2147483579 = _
  rw [Nat.mod_mul_mod]
  congr 1; ac_rfl

theorem pw_start {a n : Int} (a0 : 0 ≤ a) (a1 : a < 2147483579) (n0 : 0 ≤ n) : PwState a.toNat n.toNat 1 a n := by
  refine ⟨by omega, by omega, a0, a1, n0, ?_⟩
  simp [powN]

set_option maxHeartbeats 400000 in
theorem rpower_any (a n : Int) (w : World) (a0 : 0 ≤ a) (a1 : a < 2147483579) (n0 : 0 ≤ n) (n1 : n ≤ 1073741789) :
    Calls Tryd.prog 66 #[.int .i64 a, .int .i64 n] w fun e w' => e = .returned (.int .i64 (powN a.toNat n.toNat : Int)) ∧ w = w' := by
  have HS := Lib.hid (pw_start a0 a1 n0)
  go_enter Tryd.func66, Tryd.ntmps66
  go_wp2
  go_loop [0, 1, 5] (fun s r c => ∃ s' r' c' : Int, s = .int .i64 s' ∧ r = .int .i64 r' ∧ c = .int .i64 c' ∧ r' ≤ 1073741789 ∧ Hid (PwState a.toNat n.toNat c' s' r')) (fun _ r _ => (intOf r).toNat)
  case atStart => exact ⟨a, n, 1, rfl, rfl, rfl, n1, HS⟩
  case round =>
    obtain ⟨s, r, c, rfl, rfl, rfl, hr1, hst⟩ := hrel
    obtain ⟨c0, c1, s0, s1, r0, _⟩ := hst.out
    by_cases hr : 0 < r
    · obtain ⟨m0, m1⟩ := mul_bound s0 s1 s0 s1
      obtain ⟨m2, m3⟩ := mul_bound c0 c1 s0 s1
      by_cases e : r % 2 = 1
      · have hn := Lib.hid (pw_odd hst.out hr e)
        have eB : (r % 2 == 1) = true := by simp [e]
        clear e
        go_wp2
        go_round
        case rel => exact ⟨_, _, _, rfl, rfl, rfl, by omega, hn⟩
        case measure => simp [intOf]; omega
      · have hn := Lib.hid (pw_even hst.out hr e)
        have eB : (r % 2 == 1) = false := by simp [e]
        clear e
        go_wp2
        go_round
        case rel => exact ⟨_, _, _, rfl, rfl, rfl, by omega, hn⟩
        case measure => simp [intOf]; omega
    · obtain rfl : r = 0 := by omega
      have hf := Lib.hid (pw_end hst.out)
      go_wp2
      go_ret
      exact ⟨ret_int hf.out, rfl⟩

theorem elB_powN {x : Int} (h1 : 1 ≤ x) (h2 : x < 2147483579) : ((powN x.toNat 1073741789 : Int) == 1) = elB x := by
  have hP : M.P = 2147483579 := rfl
  have hQ : M.Q = 1073741789 := rfl
  unfold elB powN
  rw [Bool.eq_iff_iff, beq_iff_eq, M.isEl_iff]
  constructor
  · intro h; exact ⟨by omega, by omega, by rw [hP, hQ]; omega⟩
  · intro h; have := h.2.2; rw [hP, hQ] at this; omega

set_option maxHeartbeats 400000 in
theorem rvalid_any (x : Int) (w : World) :
    Calls Tryd.prog 55 #[.int .i64 x] w fun e w' => e = .returned (.bool (elB x)) ∧ w = w' := by
  by_cases h1 : 1 ≤ x
  · by_cases h2 : x < 2147483579
    · have H := Lib.hid (elB_powN h1 h2)
      go_enter Tryd.func55, Tryd.ntmps55
      go_wp2_with (go_at_call 66; refine (rpower_any _ _ _ (by omega) h2 (by omega) (by omega)).mono ?_; rintro e w' ⟨rfl, rfl⟩)
      go_ret
      exact ⟨ret_bool H.out, rfl⟩
    · have H := Lib.hid (elB_high (x := x) (by omega))
      go_enter Tryd.func55, Tryd.ntmps55
      go_wp2
      go_ret
      exact ⟨ret_bool H.out.symm, rfl⟩
  · have H := Lib.hid (elB_low (x := x) (by omega))
    go_enter Tryd.func55, Tryd.ntmps55
    go_wp2
    go_ret
    exact ⟨ret_bool H.out.symm, rfl⟩


set_option maxHeartbeats 400000 in
theorem relm_any (n : Int) (w : World) (hn : -9223372036854775808 ≤ n ∧ n ≤ 9223372036854775807) :
    Calls Tryd.prog 31 #[.int .i64 n] w fun e w' => e = .returned (.tuple #[.int .i64 (elmZ n), .int .i64 (elmE n)]) ∧ w = w' := by
  by_cases h1 : n < 1
  · have e1 := Lib.hid (show elmZ n = 0 by unfold elmZ; rw [if_neg (by omega)])
    have e2 := Lib.hid (show elmE n = 1 by unfold elmE; rw [if_neg (by omega)])
    go_enter Tryd.func31, Tryd.ntmps31
    go_wp2_with fail
    go_ret2
    exact ⟨ret_two e1.out.symm e2.out.symm, rfl⟩
  · by_cases h2 : n > 1073741789
    · have e1 := Lib.hid (show elmZ n = 0 by unfold elmZ; rw [if_neg (by omega)])
      have e2 := Lib.hid (show elmE n = 1 by unfold elmE; rw [if_neg (by omega)])
      go_enter Tryd.func31, Tryd.ntmps31
      go_wp2_with fail
      go_ret2
      exact ⟨ret_two e1.out.symm e2.out.symm, rfl⟩
    · have e2 := Lib.hid (show elmE n = 0 by unfold elmE; rw [if_pos (by omega)])
      cases hv : elB n with
      | true =>
        have e1 := Lib.hid (show elmZ n = n by unfold elmZ; rw [if_pos (by omega), hv]; rfl)
        have HV := Lib.hid hv; clear hv
        go_enter Tryd.func31, Tryd.ntmps31
        go_wp2_with fail
        refine (rvalid_any _ _).mono ?_; rintro e w' ⟨rfl, rfl⟩; rw [HV.out]
        go_wp2_with fail
        go_ret2
        exact ⟨ret_two e1.out.symm e2.out.symm, rfl⟩
      | false =>
        have e1 := Lib.hid (show elmZ n = 2147483579 - n by unfold elmZ; rw [if_pos (by omega), hv]; rfl)
        have HV := Lib.hid hv; clear hv
        go_enter Tryd.func31, Tryd.ntmps31
        go_wp2_with fail
        refine (rvalid_any _ _).mono ?_; rintro e w' ⟨rfl, rfl⟩; rw [HV.out]
        go_wp2_with fail
        go_ret2
        exact ⟨ret_two e1.out.symm e2.out.symm, rfl⟩

set_option maxHeartbeats 400000 in
theorem rnum_any (x : Int) (w : World) :
    Calls Tryd.prog 33 #[.int .i64 x] w fun e w' => e = .returned (.tuple #[.int .i64 (numZ x), .int .i64 (numE x)]) ∧ w = w' := by
  cases hv : elB x with
  | true =>
    have HV := Lib.hid hv
    obtain ⟨h1, h2⟩ := elB_iff hv
    have e2 := Lib.hid (show numE x = 0 by unfold numE; rw [hv]; rfl)
    clear hv
    by_cases h3 : x ≤ 1073741789
    · have e1 := Lib.hid (show numZ x = x by unfold numZ; rw [HV.out, if_pos rfl, if_pos h3])
      go_enter Tryd.func33, Tryd.ntmps33
      go_wp2_with fail
      refine (rvalid_any _ _).mono ?_; rintro e w' ⟨rfl, rfl⟩; rw [HV.out]
      go_wp2_with fail
      go_ret2
      exact ⟨ret_two e1.out.symm e2.out.symm, rfl⟩
    · have e1 := Lib.hid (show numZ x = 2147483579 - x by unfold numZ; rw [HV.out, if_pos rfl, if_neg h3])
      go_enter Tryd.func33, Tryd.ntmps33
      go_wp2_with fail
      refine (rvalid_any _ _).mono ?_; rintro e w' ⟨rfl, rfl⟩; rw [HV.out]
      go_wp2_with fail
      go_ret2
      exact ⟨ret_two e1.out.symm e2.out.symm, rfl⟩
  | false =>
    have HV := Lib.hid hv
    have e1 := Lib.hid (show numZ x = 0 by unfold numZ; rw [hv]; rfl)
    have e2 := Lib.hid (show numE x = 90 by unfold numE; rw [hv]; rfl)
    clear hv
    go_enter Tryd.func33, Tryd.ntmps33
    go_wp2_with fail
    refine (rvalid_any _ _).mono ?_; rintro e w' ⟨rfl, rfl⟩; rw [HV.out]
    go_wp2_with fail
    go_ret2
    exact ⟨ret_two e1.out.symm e2.out.symm, rfl⟩
end Go.Proofs.YtmheblpgofeafaaDoor
