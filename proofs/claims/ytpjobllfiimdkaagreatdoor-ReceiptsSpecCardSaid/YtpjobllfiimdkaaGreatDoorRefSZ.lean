/- The reference of layer 9: Hash. Points; the group's reference said with facts. The reference of layer 11: what is calculated modulo Q. The reference of layer 11: values, hashes, Sign, Verify. The reference of layer 11: values, hashes, Sign, Verify. The reference of layer 43: word, Text, Check, Make. -/
import Derived.Test.YtpjobllfiimdkaaGreatDoorRefTZ
import Derived.Test.YtpjobllfiimdkaaGreatDoorDigHash
import Derived.Test.YtpjobllfiimdkaaGreatDoorGroupFac
import Derived.Test.YtpjobllfiimdkaaGreatDoorSigZ
import Derived.Test.YtpjobllfiimdkaaGreatDoorGroupRef
import Derived.Test.YtpjobllfiimdkaaGreatDoorRegU
import Derived.Test.YtpjobllfiimdkaaGreatDoorQInv
import Derived.Test.YtpjobllfiimdkaaGreatDoorOntRf0
import Derived.Test.YtpjobllfiimdkaaGreatDoorRecZA
namespace Go.Proofs.YtpjobllfiimdkaaGreatDoor
open Go.RowKit
set_option linter.unusedVariables false
set_option linter.unusedSimpArgs false

theorem low7_n {ds : List Int} {k : Nat} (hk : 0 < k) : (low7 ds).getD k 0 = ds.getD k 0 := by
  unfold low7
  rw [List.getD_eq_getElem?_getD, List.getElem?_set_ne (by omega), ← List.getD_eq_getElem?_getD]
set_option maxRecDepth 100000 in
set_option maxHeartbeats 2000000 in
theorem rhash_any (s : ByteArray) (p : Option Addr) (m cap : Nat) (bs : List Int) (w : World) (hz : Hid (SrcW w p m cap bs)) (hr : Hid (∀ z ∈ bs, 0 ≤ z ∧ z ≤ 255)) (hs : s.size ≤ 100000000) (hn : m ≤ 100000000) (ts ds : List Int) (hts : Hid (IsSha (strL s) ts)) (hds : Hid (IsSha (ts ++ bs) ds)) :
    Calls Tryz.prog 52 #[.string s, .slice p m cap] w fun e w' => e = .returned (.int .i64 (hashZ ds)) ∧ Below w.heap.size w w' := by
  go_enter Tryz.func52, Tryz.ntmps52
  go_wp2_with fail
  refine (rtagged_any s p m cap bs w hz hr hs hn ts ds hts hds).mono ?_; rintro e w1 ⟨rfl, hb1⟩
  have B1 := Lib.hid hb1
  clear hb1
  have hd32 : ds.length = 32 := by rw [← hds.out.eq]; exact sha_len _
  have hdr : ∀ z ∈ ds, 0 ≤ z ∧ z ≤ 255 := by rw [← hds.out.eq]; exact sha_rng _
  have q3 := size32 ds hd32
  have q4 : (w1.alloc (.cells #[.int .u8 0, .int .u8 0, .int .u8 0, .int .u8 0, .int .u8 0, .int .u8 0, .int .u8 0, .int .u8 0, .int .u8 0, .int .u8 0, .int .u8 0, .int .u8 0, .int .u8 0, .int .u8 0, .int .u8 0, .int .u8 0, .int .u8 0, .int .u8 0, .int .u8 0, .int .u8 0, .int .u8 0, .int .u8 0, .int .u8 0, .int .u8 0, .int .u8 0, .int .u8 0, .int .u8 0, .int .u8 0, .int .u8 0, .int .u8 0, .int .u8 0, .int .u8 0] 27)).there w1.heap.size 0 (bv ds).toArray.size := by have := (zeros32 w1).there; simp only [bv_len, List.length_replicate] at this; simp only [List.size_toArray, bv_len, hd32]; exact this
  have q5 := all_oneCell_toArray (bv_one ds)
  go_upto_region 2 with (refine wpList_store_mid rfl 27 _ _ rfl w1.heap.size 0 (bv ds).toArray rfl rfl q4 q3 q5 ?_)
  simp only [Act.put]
  generalize hW4 : World.setCells _ _ _ _ = W4
  have A4 := Lib.hid (show Blk W4 w1.heap.size (bv ds).toArray 27 by rw [← hW4]; exact (zeros32 w1).fill (by rw [bv_len, bv_len, hd32, List.length_replicate]))
  have B4 := Lib.hid (show Below w.heap.size w W4 by rw [← hW4]; exact setCells_below B1.out.size _ _ (B1.out.alloc B1.out.size _))
  clear hW4 q3 q4 q5 B1
  obtain ⟨ab, hab⟩ : ∃ ab, w1.heap.size = ab := ⟨_, rfl⟩
  rw [hab] at A4 ⊢
  clear hab
  obtain ⟨d0, hd0⟩ : ∃ y, ds.getD 0 0 = y := ⟨_, rfl⟩
  have e0 := A4.out.cell 0
  rw [bv_get ds 0 (by omega), hd0] at e0
  have r0 := getD_rng hdr 0
  rw [hd0] at r0
  have HY0 := Lib.hid (show (low7 ds).getD 0 0 = d0 % 128 by rw [low7_0 hd32, hd0])
  clear hd0
  obtain ⟨y1, hy1'⟩ : ∃ y, ds.getD 1 0 = y := ⟨_, rfl⟩
  have e1 := A4.out.cell 1
  rw [bv_get ds 1 (by omega), hy1'] at e1
  have r1 := getD_rng hdr 1
  rw [hy1'] at r1
  have hy1 := Lib.hid (show (low7 ds).getD 1 0 = y1 by rw [low7_n (by omega)]; exact hy1')
  clear hy1'
  obtain ⟨y2, hy2'⟩ : ∃ y, ds.getD 2 0 = y := ⟨_, rfl⟩
  have e2 := A4.out.cell 2
  rw [bv_get ds 2 (by omega), hy2'] at e2
  have r2 := getD_rng hdr 2
  rw [hy2'] at r2
  have hy2 := Lib.hid (show (low7 ds).getD 2 0 = y2 by rw [low7_n (by omega)]; exact hy2')
  clear hy2'
  obtain ⟨y3, hy3'⟩ : ∃ y, ds.getD 3 0 = y := ⟨_, rfl⟩
  have e3 := A4.out.cell 3
  rw [bv_get ds 3 (by omega), hy3'] at e3
  have r3 := getD_rng hdr 3
  rw [hy3'] at r3
  have hy3 := Lib.hid (show (low7 ds).getD 3 0 = y3 by rw [low7_n (by omega)]; exact hy3')
  clear hy3'
  obtain ⟨y4, hy4'⟩ : ∃ y, ds.getD 4 0 = y := ⟨_, rfl⟩
  have e4 := A4.out.cell 4
  rw [bv_get ds 4 (by omega), hy4'] at e4
  have r4 := getD_rng hdr 4
  rw [hy4'] at r4
  have hy4 := Lib.hid (show (low7 ds).getD 4 0 = y4 by rw [low7_n (by omega)]; exact hy4')
  clear hy4'
  obtain ⟨y5, hy5'⟩ : ∃ y, ds.getD 5 0 = y := ⟨_, rfl⟩
  have e5 := A4.out.cell 5
  rw [bv_get ds 5 (by omega), hy5'] at e5
  have r5 := getD_rng hdr 5
  rw [hy5'] at r5
  have hy5 := Lib.hid (show (low7 ds).getD 5 0 = y5 by rw [low7_n (by omega)]; exact hy5')
  clear hy5'
  obtain ⟨y6, hy6'⟩ : ∃ y, ds.getD 6 0 = y := ⟨_, rfl⟩
  have e6 := A4.out.cell 6
  rw [bv_get ds 6 (by omega), hy6'] at e6
  have r6 := getD_rng hdr 6
  rw [hy6'] at r6
  have hy6 := Lib.hid (show (low7 ds).getD 6 0 = y6 by rw [low7_n (by omega)]; exact hy6')
  clear hy6'
  obtain ⟨y7, hy7'⟩ : ∃ y, ds.getD 7 0 = y := ⟨_, rfl⟩
  have e7 := A4.out.cell 7
  rw [bv_get ds 7 (by omega), hy7'] at e7
  have r7 := getD_rng hdr 7
  rw [hy7'] at r7
  have hy7 := Lib.hid (show (low7 ds).getD 7 0 = y7 by rw [low7_n (by omega)]; exact hy7')
  clear hy7'
  have HD : Hid (hashZ ds = hacc (low7 ds) 8 % 1073741789) := Lib.hid rfl
  generalize low7 ds = ys at *
  clear hd32 hdr
  go_wp2_with fail
  go_loop [6, 7] (fun x i => ∃ (k : Nat) (n : Int), 1 ≤ k ∧ k ≤ 8 ∧ i = .int .i64 k ∧ x = .int .i64 n ∧ 0 ≤ n ∧ n = hacc ys k ∧ Hid (n < bndL.getD k 0)) (fun _ i => 8 - (intOf i).toNat)
  case atStart => exact ⟨1, d0 % 128, by omega, by omega, rfl, rfl, by omega, by have h := HY0.out; show _ = hacc ys 0 * 256 + ys.getD 0 0; rw [h]; show _ = (0 : Int) * 256 + _; omega, Lib.hid (by rw [show bndL.getD 1 0 = 128 from rfl]; omega)⟩
  case round =>
    obtain ⟨k, n, hk1, hk8, rfl, rfl, n0, hn, hbd⟩ := hrel
    by_cases hlt : k < 8
    · rcases (by omega : k = 1 ∨ k = 2 ∨ k = 3 ∨ k = 4 ∨ k = 5 ∨ k = 6 ∨ k = 7) with rfl | rfl | rfl | rfl | rfl | rfl | rfl
      · have hb := hbd.out
        rw [show bndL.getD 1 0 = 128 from rfl] at hb
        have HN := Lib.hid hn
        have HR := Lib.hid r1
        clear hn
        go_wp2_with fail
        go_round
        case rel => exact ⟨1 + 1, n * 256 + y1, by omega, by omega, rfl, rfl, by have := HR.out; omega, by rw [HN.out]; exact hacc_succ hy1.out, Lib.hid (by rw [show bndL.getD (1 + 1) 0 = 32768 from rfl]; have := HR.out; omega)⟩
        case measure => simp [intOf]
      · have hb := hbd.out
        rw [show bndL.getD 2 0 = 32768 from rfl] at hb
        have HN := Lib.hid hn
        have HR := Lib.hid r2
        clear hn
        go_wp2_with fail
        go_round
        case rel => exact ⟨2 + 1, n * 256 + y2, by omega, by omega, rfl, rfl, by have := HR.out; omega, by rw [HN.out]; exact hacc_succ hy2.out, Lib.hid (by rw [show bndL.getD (2 + 1) 0 = 8388608 from rfl]; have := HR.out; omega)⟩
        case measure => simp [intOf]
      · have hb := hbd.out
        rw [show bndL.getD 3 0 = 8388608 from rfl] at hb
        have HN := Lib.hid hn
        have HR := Lib.hid r3
        clear hn
        go_wp2_with fail
        go_round
        case rel => exact ⟨3 + 1, n * 256 + y3, by omega, by omega, rfl, rfl, by have := HR.out; omega, by rw [HN.out]; exact hacc_succ hy3.out, Lib.hid (by rw [show bndL.getD (3 + 1) 0 = 2147483648 from rfl]; have := HR.out; omega)⟩
        case measure => simp [intOf]
      · have hb := hbd.out
        rw [show bndL.getD 4 0 = 2147483648 from rfl] at hb
        have HN := Lib.hid hn
        have HR := Lib.hid r4
        clear hn
        go_wp2_with fail
        go_round
        case rel => exact ⟨4 + 1, n * 256 + y4, by omega, by omega, rfl, rfl, by have := HR.out; omega, by rw [HN.out]; exact hacc_succ hy4.out, Lib.hid (by rw [show bndL.getD (4 + 1) 0 = 549755813888 from rfl]; have := HR.out; omega)⟩
        case measure => simp [intOf]
      · have hb := hbd.out
        rw [show bndL.getD 5 0 = 549755813888 from rfl] at hb
        have HN := Lib.hid hn
        have HR := Lib.hid r5
        clear hn
        go_wp2_with fail
        go_round
        case rel => exact ⟨5 + 1, n * 256 + y5, by omega, by omega, rfl, rfl, by have := HR.out; omega, by rw [HN.out]; exact hacc_succ hy5.out, Lib.hid (by rw [show bndL.getD (5 + 1) 0 = 140737488355328 from rfl]; have := HR.out; omega)⟩
        case measure => simp [intOf]
      · have hb := hbd.out
        rw [show bndL.getD 6 0 = 140737488355328 from rfl] at hb
        have HN := Lib.hid hn
        have HR := Lib.hid r6
        clear hn
        go_wp2_with fail
        go_round
        case rel => exact ⟨6 + 1, n * 256 + y6, by omega, by omega, rfl, rfl, by have := HR.out; omega, by rw [HN.out]; exact hacc_succ hy6.out, Lib.hid (by rw [show bndL.getD (6 + 1) 0 = 36028797018963968 from rfl]; have := HR.out; omega)⟩
        case measure => simp [intOf]
      · have hb := hbd.out
        rw [show bndL.getD 7 0 = 36028797018963968 from rfl] at hb
        have HN := Lib.hid hn
        have HR := Lib.hid r7
        clear hn
        go_wp2_with fail
        go_round
        case rel => exact ⟨7 + 1, n * 256 + y7, by omega, by omega, rfl, rfl, by have := HR.out; omega, by rw [HN.out]; exact hacc_succ hy7.out, Lib.hid (by rw [show bndL.getD (7 + 1) 0 = 9223372036854775808 from rfl]; have := HR.out; omega)⟩
        case measure => simp [intOf]
    · obtain rfl : k = 8 := by omega
      have HN := Lib.hid hn
      have hb := hbd.out
      rw [show bndL.getD 8 0 = 9223372036854775808 from rfl] at hb
      clear hn
      go_wp2_with fail
      go_ret
      exact ⟨ret_int (by rw [HD.out, ← HN.out]), B4.out⟩
end Go.Proofs.YtpjobllfiimdkaaGreatDoor
namespace Go.Proofs.YtpjobllfiimdkaaGreatDoor
open Go.RowKit
set_option linter.unusedVariables false
set_option linter.unusedSimpArgs false

structure IsPt (key e s pt : Int) : Prop where
  eq : ptZ key e s = pt
theorem isPt (key e s : Int) : ∃ pt, IsPt key e s pt := ⟨_, ⟨rfl⟩⟩
end Go.Proofs.YtpjobllfiimdkaaGreatDoor
namespace Go.Proofs.YtpjobllfiimdkaaGreatDoor
open Go.RowKit
set_option linter.unusedVariables false
set_option linter.unusedSimpArgs false

theorem rvalid_is (x : Int) (v : Bool) (w : World) (h : Hid (elB x = v)) : Calls Tryz.prog 63 #[.int .i64 x] w fun e w' => e = .returned (.bool v) ∧ w = w' := by
  rw [← h.out]; exact rvalid_any x w
theorem rpow_is (a n r : Int) (w : World) (h : Hid (IsPw a n r)) (ha : Hid (IsPe a 0)) : Calls Tryz.prog 53 #[.int .i64 a, .int .i64 n] w fun e w' => e = .returned (.tuple #[.int .i64 r, .int .i64 0]) ∧ w = w' := by
  rw [← h.out.eq, ← ha.out.eq]; exact rPow_any a n w
theorem rmul_is (a b r : Int) (w : World) (h : Hid (IsMl a b r)) (ha : elB a = true) (hb : elB b = true) : Calls Tryz.prog 60 #[.int .i64 a, .int .i64 b] w fun e w' => e = .returned (.tuple #[.int .i64 r, .int .i64 0]) ∧ w = w' := by
  have h2 : mulE a b = 0 := mulE_el ha hb
  rw [← h.out.eq, ← h2]; exact rMul_any a b w
end Go.Proofs.YtpjobllfiimdkaaGreatDoor
namespace Go.Proofs.YtpjobllfiimdkaaGreatDoor
open Go.RowKit
set_option linter.unusedVariables false

set_option maxHeartbeats 400000 in
theorem rmod_any (n : Int) (w : World) : Calls Tryz.prog 83 #[.int .i64 n] w fun e w' => e = .returned (.int .i64 (modQ n)) ∧ w = w' := by
  have h1 := Int.tmod_lt_of_pos n (show (0 : Int) < 1073741789 by omega)
  have h2 : -1073741789 < n.tmod 1073741789 := Int.lt_tmod_of_pos n (by omega)
  have h3 : modQ n = if n.tmod 1073741789 < 0 then n.tmod 1073741789 + 1073741789 else n.tmod 1073741789 := by
    unfold modQ
    rw [← exp_eq n]
    split <;> omega
  by_cases h : n.tmod 1073741789 < 0
  · rw [if_pos h] at h3
    have H3 := Lib.hid h3
    clear h3
    go_enter Tryz.func83, Tryz.ntmps83
    go_wp2
    go_ret
    exact ⟨ret_int H3.out.symm, rfl⟩
  · rw [if_neg h] at h3
    have H3 := Lib.hid h3
    clear h3
    go_enter Tryz.func83, Tryz.ntmps83
    go_wp2
    go_ret
    exact ⟨ret_int H3.out.symm, rfl⟩
theorem modQ_rng (n : Int) : 0 ≤ modQ n ∧ modQ n < 1073741789 := by unfold modQ; omega
def tmsQ (a b : Int) : Int := modQ a * modQ b % 1073741789
set_option maxHeartbeats 400000 in
theorem rtimes_any (a b : Int) (w : World) : Calls Tryz.prog 55 #[.int .i64 a, .int .i64 b] w fun e w' => e = .returned (.int .i64 (tmsQ a b)) ∧ w = w' := by
  obtain ⟨a0, a1⟩ := modQ_rng a
  obtain ⟨b0, b1⟩ := modQ_rng b
  obtain ⟨m0, m1⟩ := mulQ_bound a0 a1 b0 b1
  go_enter Tryz.func55, Tryz.ntmps55
  go_wp2_with (go_at_call 83; refine (rmod_any _ _).mono ?_; rintro e w' ⟨rfl, rfl⟩)
  go_ret
  exact ⟨rfl, rfl⟩
end Go.Proofs.YtpjobllfiimdkaaGreatDoor
namespace Go.Proofs.YtpjobllfiimdkaaGreatDoor
open Go.RowKit
set_option linter.unusedVariables false
set_option linter.unusedSimpArgs false

set_option maxRecDepth 100000 in
theorem rText_any (s : ByteArray) (w : World) : Calls Tryz.prog 51 #[.string s] w fun e w' => e = .returned (.agg #[.int .i64 2, .int .i64 0, .string s, .slice none 0 0]) ∧ Below w.heap.size w w' := by
  go_enter Tryz.func51, Tryz.ntmps51
  go_wp2_with fail
  refine bodyPost_ret (v := .agg #[.int .i64 2, .int .i64 0, .string s, .slice none 0 0]) (by simp [results, Tryz.results51, go_sem]) rfl ⟨rfl, ?_⟩
  repeat refine Below.setCell ?_ (by simp) _
  exact bel_alloc1 w _
set_option maxRecDepth 100000 in
theorem rList_any (p : Option Addr) (m c : Nat) (w : World) : Calls Tryz.prog 49 #[.slice p m c] w fun e w' => e = .returned (.agg #[.int .i64 3, .int .i64 0, .string ⟨#[]⟩, .slice p m c]) ∧ Below w.heap.size w w' := by
  go_enter Tryz.func49, Tryz.ntmps49
  go_wp2_with fail
  refine bodyPost_ret (v := .agg #[.int .i64 3, .int .i64 0, .string ⟨#[]⟩, .slice p m c]) (by simp [results, Tryz.results49, go_sem]) rfl ⟨rfl, ?_⟩
  repeat refine Below.setCell ?_ (by simp) _
  exact bel_alloc1 w _
theorem rhash_is (s : ByteArray) (t : List Int) (l : List Atom) (B : Nat) (v : Value) (w : World) (hst : strL s = t) (hv : Hid (Own8 w B v (encL l))) (hok : Hid (∀ a ∈ l, a.ok)) (hl : l.length ≤ 1000) (hx : lenA l ≤ 50000000) (hs : s.size ≤ 100000000) (h : Int) (hh : Hid (IsHash t (encL l) h)) :
    Calls Tryz.prog 52 #[.string s, v] w fun e w' => e = .returned (.int .i64 h) ∧ Below w.heap.size w w' := by
  obtain ⟨p, cap, rfl, h1, h2, h3, _⟩ := own8_src hv.out
  obtain ⟨ts, ds, k1, k2, k3⟩ := hh.out
  subst k3
  exact rhash_any s p _ cap (encL l) w (Lib.hid (.inl h1)) (Lib.hid (encL_rng hok.out)) hs (by have := encL_len hok.out hl; omega) ts ds (Lib.hid (by rw [hst]; exact k1)) (Lib.hid k2)
theorem renc3 (a b : Int) (ha : 0 ≤ a ∧ a < 2147483579) (hb : 0 ≤ b ∧ b < 2147483579) (bs : List Int) (st : ByteArray) (w : World) (g : Nat) (hst : strB bs = st) (hs : Hid (txOk bs)) (hB : Hid (Blk w g #[.int .i64 1, .int .i64 a, .string ⟨#[]⟩, .slice none 0 0, .int .i64 1, .int .i64 b, .string ⟨#[]⟩, .slice none 0 0, .int .i64 2, .int .i64 0, .string st, .slice none 0 0] 84)) :
    Calls Tryz.prog 48 #[.agg #[.int .i64 3, .int .i64 0, .string ⟨#[]⟩, .slice (some ⟨g, 0, none⟩) 3 3]] w
      fun e w' => ∃ v', e = .returned (.tuple #[v', .int .i64 0]) ∧ Own8 w' w.heap.size v' (encL [.int a, .int b, .text bs]) ∧ Below w.heap.size w w' := by
  subst hst
  have hB := hB.out
  refine rEncode_list [.int a, .int b, .text bs] g 0 3 3 w (Lib.hid rfl) (by omega) (Lib.hid (ok3 ha hb hs.out)) hB.lt (Lib.hid ?_) (Lib.hid (by rw [lenA3]; have := hs.out.1; omega))
  intro k hk
  have hk' : k < 3 := hk
  rcases (by omega : k = 0 ∨ k = 1 ∨ k = 2) with rfl | rfl | rfl
  · exact ⟨hB.cell 0, hB.cell 1, hB.cell 2, hB.cell 3⟩
  · exact ⟨hB.cell 4, hB.cell 5, hB.cell 6, hB.cell 7⟩
  · exact ⟨hB.cell 8, hB.cell 9, hB.cell 10, hB.cell 11⟩
set_option maxRecDepth 100000 in
set_option maxHeartbeats 4000000 in
theorem rchallenge_any (a b : Int) (p : Option Addr) (m c : Nat) (bs : List Int) (w : World) (ha : 0 ≤ a ∧ a < 2147483579) (hb : 0 ≤ b ∧ b < 2147483579) (hs : Hid (txOk bs)) (hz : Hid (SrcW w p m c bs)) (h : Int) (hh : Hid (IsCh a b bs h)) :
    Calls Tryz.prog 54 #[.int .i64 a, .int .i64 b, .slice p m c] w fun e w' => e = .returned (.int .i64 h) ∧ Below w.heap.size w w' := by
  have HA := Lib.hid ha; have HB := Lib.hid hb; clear ha hb
  obtain ⟨st, hst⟩ : ∃ st, strB bs = st := ⟨_, rfl⟩
  have HST := Lib.hid hst
  clear hst
  go_enter Tryz.func54, Tryz.ntmps54
  go_wp2_with fail
  refine wp_region_any (by kernel_rfl) ?_
  change wpAny _ _ _ _ _ _ _ (World.drew _)
  generalize hWD : World.drew w = W
  have EW := Lib.hid (show Below w.heap.size w W by rw [← hWD]; exact (Below.refl _ w).drew)
  clear hWD
  have hCD : ∀ u, Ext W u → Ext W u := fun u hu => hu
  have ZW := Lib.hid (hz.out.below EW.out)
  refine region_U (D := Ext W) (Ext W) [14] (Ext.refl W) ?_
  refine anyU_takeD (i := 0) (v := .int .i64 a) 10 rfl rfl (by kernel_rfl) (by kernel_rfl) (by kernel_rfl) (fun _ _ _ h => h) (by kernel_rfl) (Ext.stable _) hCD (yieldsU_val rfl (fun u hu => by rfl)) ?_
  refine anyU_takeD (i := 1) (v := .agg #[.int .i64 1, .int .i64 a, .string ⟨#[]⟩, .slice none 0 0]) 11 rfl rfl (by kernel_rfl) (by kernel_rfl) (by kernel_rfl) (fun _ _ _ h => h) (by kernel_rfl) (Ext.stable _) hCD (yieldsU_call rfl 50 _ _ rfl #[.int .i64 a] (by simp [Act.eval, Act.put]) (fun u => by go_simp) (fun u hu => rInt_any a u)) ?_
  simp only [Act.put, List.setIfInBounds_toArray, List.set_cons_succ, List.set_cons_zero]
  refine anyU_takeD (i := 2) (v := .int .i64 b) 12 rfl rfl (by kernel_rfl) (by kernel_rfl) (by kernel_rfl) (fun _ _ _ h => h) (by kernel_rfl) (Ext.stable _) hCD (yieldsU_val rfl (fun u hu => by rfl)) ?_
  refine anyU_takeD (i := 3) (v := .agg #[.int .i64 1, .int .i64 b, .string ⟨#[]⟩, .slice none 0 0]) 13 rfl rfl (by kernel_rfl) (by kernel_rfl) (by kernel_rfl) (fun _ _ _ h => h) (by kernel_rfl) (Ext.stable _) hCD (yieldsU_call rfl 50 _ _ rfl #[.int .i64 b] (by simp [Act.eval, Act.put]) (fun u => by go_simp) (fun u hu => rInt_any b u)) ?_
  simp only [Act.put, List.setIfInBounds_toArray, List.set_cons_succ, List.set_cons_zero]
  refine anyU_takeD (i := 4) (v := .slice p m c) 14 rfl rfl (by kernel_rfl) (by kernel_rfl) (by kernel_rfl) (fun _ _ _ h => h) (by kernel_rfl) (Ext.stable _) hCD (yieldsU_val rfl (fun u hu => by rfl)) ?_
  refine anyU_takeD (i := 5) (v := .string st) 15 rfl rfl (by kernel_rfl) (by kernel_rfl) (by kernel_rfl) (fun _ _ _ h => h) (by kernel_rfl) (Ext.stable _) hCD (yieldsU_val rfl (fun u hu => by have hc := conv_srcW (ZW.out.below hu); rw [HST.out] at hc; go_simp)) ?_
  refine anyU_takeD (i := 6) (v := .agg #[.int .i64 2, .int .i64 0, .string st, .slice none 0 0]) 16 rfl rfl (by kernel_rfl) (by kernel_rfl) (by kernel_rfl) (fun _ _ _ h => h) (by kernel_rfl) (Ext.stable _) hCD (yieldsU_call rfl 51 _ _ rfl #[.string st] (by simp [Act.eval, Act.put]) (fun u => by go_simp) (fun u hu => rText_any st u)) ?_
  simp only [Act.put, List.setIfInBounds_toArray, List.set_cons_succ, List.set_cons_zero]
  refine anyU_one 7 7 _ rfl rfl (by kernel_rfl) ?_
  intro u1 hu
  go_wp2_with fail
  change ∃ C' : World → Prop, _ ∧ _ ∧ _ ∧ anyU _ _ _ _ _ _ 7 _ _ _
  have Z1 := Lib.hid (Blk.new u1 #[.int .i64 1, .int .i64 a, .string ⟨#[]⟩, .slice none 0 0, .int .i64 1, .int .i64 b, .string ⟨#[]⟩, .slice none 0 0, .int .i64 2, .int .i64 0, .string st, .slice none 0 0] 84)
  have E1 := Lib.hid (Ext.trans hu (bel_alloc1 u1 (.cells #[.int .i64 1, .int .i64 a, .string ⟨#[]⟩, .slice none 0 0, .int .i64 1, .int .i64 b, .string ⟨#[]⟩, .slice none 0 0, .int .i64 2, .int .i64 0, .string st, .slice none 0 0] 84)))
  generalize World.alloc u1 _ = u2 at Z1 E1 ⊢
  generalize u1.heap.size = bb at Z1 ⊢
  clear hu
  refine anchorF (fun z => Ext W z ∧ Blk z bb #[.int .i64 1, .int .i64 a, .string ⟨#[]⟩, .slice none 0 0, .int .i64 1, .int .i64 b, .string ⟨#[]⟩, .slice none 0 0, .int .i64 2, .int .i64 0, .string st, .slice none 0 0] 84) (fun z hz => hz.1) ((Ext.stable W).and (fun z z' h k => h.below k h.lt)) ⟨E1.out, Z1.out⟩ ?_
  (try simp only [Act.put])
  refine anyU_one 8 6 _ rfl rfl (by kernel_rfl) ?_
  intro u3 hu3
  go_wp2_with fail
  refine (rList_any (some ⟨bb, 0, none⟩) 3 3 u3).mono ?_
  rintro q u4 ⟨rfl, hb⟩
  have X4 := Lib.hid (Ext.trans hu3.1 hb)
  have Z4 := Lib.hid (hu3.2.below hb hu3.2.lt)
  clear hb hu3
  go_wp2_with fail
  change ∃ C' : World → Prop, _ ∧ _ ∧ _ ∧ anyU _ _ _ _ _ _ 6 _ _ _
  refine anchorF (fun z => Ext W z ∧ Blk z bb #[.int .i64 1, .int .i64 a, .string ⟨#[]⟩, .slice none 0 0, .int .i64 1, .int .i64 b, .string ⟨#[]⟩, .slice none 0 0, .int .i64 2, .int .i64 0, .string st, .slice none 0 0] 84) (fun z hz => hz.1) ((Ext.stable W).and (fun z z' h k => h.below k h.lt)) ⟨X4.out, Z4.out⟩ ?_
  (try simp only [Act.put])
  refine anyU_one 9 5 _ rfl rfl (by kernel_rfl) ?_
  intro u5 hu5
  go_wp2_with fail
  refine (renc3 a b HA.out HB.out bs st u5 bb HST.out hs (Lib.hid hu5.2)).mono ?_
  rintro q u6 ⟨v5, rfl, o5, hb⟩
  have X6 := Lib.hid (Ext.trans hu5.1 hb)
  have O6 := Lib.hid (own8_mono o5 hu5.1.size)
  clear o5 hb hu5
  go_wp2_with fail
  change ∃ C' : World → Prop, _ ∧ _ ∧ _ ∧ anyU _ _ _ _ _ _ 5 _ _ _
  have hST2 : Stable (fun z => Ext W z ∧ Own8 z W.heap.size v5 (encL [.int a, .int b, .text bs])) := ((Ext.stable W).and (fun z z' h k => own8_below h k))
  have hF2 : ∀ z, (fun z => Ext W z ∧ Own8 z W.heap.size v5 (encL [.int a, .int b, .text bs])) z → Ext W z := fun z hz => hz.1
  refine anchorF (fun z => Ext W z ∧ Own8 z W.heap.size v5 (encL [.int a, .int b, .text bs])) (fun z hz => hz.1) hST2 ⟨X6.out, O6.out⟩ ?_
  (try simp only [Act.put])
  refine anyU_takeD (i := 10) (v := .tuple #[v5, .int .i64 0]) 9 rfl rfl (by kernel_rfl) (by kernel_rfl) (by kernel_rfl) (fun _ _ _ h => h) (by kernel_rfl) hST2 hF2 (yieldsU_val rfl (fun u hu => by rfl)) ?_
  refine anyU_takeD (i := 11) (v := v5) 20 rfl rfl (by kernel_rfl) (by kernel_rfl) (by kernel_rfl) (fun _ _ _ h => h) (by kernel_rfl) hST2 hF2 (yieldsU_val rfl (fun u hu => by go_simp)) ?_
  refine anyU_takeD (i := 12) (v := .int .i64 0) 21 rfl rfl (by kernel_rfl) (by kernel_rfl) (by kernel_rfl) (fun _ _ _ h => h) (by kernel_rfl) hST2 hF2 (yieldsU_val rfl (fun u hu => by go_simp)) ?_
  simp only [Act.put, List.setIfInBounds_toArray, List.set_cons_succ, List.set_cons_zero]
  refine anyU_one 13 1 _ rfl rfl (by kernel_rfl) ?_
  intro u7 hu7
  go_wp2_with fail
  change ∃ C' : World → Prop, _ ∧ _ ∧ _ ∧ anyU _ _ _ _ _ _ 1 _ _ _
  refine anchorF (fun z => Ext W z ∧ Own8 z W.heap.size v5 (encL [.int a, .int b, .text bs])) (fun z hz => hz.1) hST2 hu7 ?_
  (try simp only [Act.put])
  refine anyU_tail 14 [] rfl rfl (by decide) (by kernel_rfl) ?_
  intro u8 hu8
  simp only [Act.put, List.filterMap_cons, List.filterMap_nil, List.getElem?_cons_succ, List.getElem?_cons_zero]
  have X8 := Lib.hid hu8.1
  have O8 := Lib.hid hu8.2
  clear hu8 hST2 hF2
  have B8 := Lib.hid (bel_trans EW.out X8.out)
  go_wp2_with (go_at_call 52; refine (rhash_is _ tSign _ _ v5 u8 strSign O8 (Lib.hid (ok3 HA.out HB.out hs.out)) (by simp) (by rw [lenA3]; have := hs.out.1; omega) (by decide) h hh).mono ?_; rintro q u9 ⟨rfl, hb⟩; have B9 := Lib.hid (bel_trans B8.out hb); clear hb)
  go_ret
  exact ⟨rfl, B9.out⟩
set_option maxHeartbeats 1000000 in
theorem rpoint_is (key e s pt : Int) (w : World) (hk : Hid (elB key = true)) (e0 : 0 ≤ e) (e1 : e < 1073741789) (h : Hid (IsPt key e s pt)) :
    Calls Tryz.prog 64 #[.int .i64 key, .agg #[.int .i64 e, .int .i64 s]] w fun r w' => r = .returned (.int .i64 pt) ∧ Below w.heap.size w w' := by
  have h1 := h.out.eq
  obtain ⟨l, hl⟩ := isPw 4 s
  obtain ⟨q, hq⟩ := isPw key (-e)
  have el := powZ_el elB_4 s
  have eq := powZ_el hk.out (-e)
  unfold ptZ at h1
  rw [hl.eq, hq.eq] at h1
  rw [hl.eq] at el
  rw [hq.eq] at eq
  have HL := Lib.hid hl; have HQ := Lib.hid hq; have HPT := Lib.hid (show IsMl l q pt from ⟨h1⟩); have HEL := Lib.hid el; have HEQ := Lib.hid eq
  clear h1 hl hq el eq
  go_enter Tryz.func64, Tryz.ntmps64
  go_wp2_with (first
    | (go_at_call 53; ((with_reducible refine (rpow_is 4 s l _ HL (Lib.hid pe4)).mono ?_); rintro r u2 ⟨rfl, rfl⟩))
    | (go_at_call 53; ((with_reducible refine (rpow_is key (-e) q _ HQ (Lib.hid (pe_el hk.out))).mono ?_); rintro r u3 ⟨rfl, rfl⟩))
    | (go_at_call 60; ((with_reducible refine (rmul_is l q pt _ HPT HEL.out HEQ.out).mono ?_); rintro r u4 ⟨rfl, rfl⟩)))
  go_ret
  exact ⟨rfl, bel_alloc1 w _⟩
set_option maxRecDepth 100000 in
set_option maxHeartbeats 2000000 in
theorem rverify_b0 (key e s : Int) (p : Option Addr) (m c : Nat) (w : World) (hk1 : Hid (elB key = false)) : Calls Tryz.prog 23 #[.int .i64 key, .slice p m c, .agg #[.int .i64 e, .int .i64 s]] w fun r w' => r = .returned (.bool false) ∧ Below w.heap.size w w' := by
  have V := Blk.new w #[.int .i64 e, .int .i64 s] 46
  have c0 := V.cell 0
  have c1 := V.cell 1
  clear V
  go_enter Tryz.func23, Tryz.ntmps23
  go_wp2_with (go_at_call 63; refine (rvalid_is key false _ hk1).mono ?_; rintro r u1 ⟨rfl, rfl⟩)
  go_ret
  exact ⟨rfl, bel_alloc1 w _⟩
set_option maxRecDepth 100000 in
set_option maxHeartbeats 2000000 in
theorem rverify_b1 (key e s : Int) (p : Option Addr) (m c : Nat) (w : World) (hk1 : Hid (elB key = true)) (h1 : e < 0) : Calls Tryz.prog 23 #[.int .i64 key, .slice p m c, .agg #[.int .i64 e, .int .i64 s]] w fun r w' => r = .returned (.bool false) ∧ Below w.heap.size w w' := by
  have V := Blk.new w #[.int .i64 e, .int .i64 s] 46
  have c0 := V.cell 0
  have c1 := V.cell 1
  clear V
  go_enter Tryz.func23, Tryz.ntmps23
  go_wp2_with (go_at_call 63; refine (rvalid_is key true _ hk1).mono ?_; rintro r u1 ⟨rfl, rfl⟩)
  go_ret
  exact ⟨rfl, bel_alloc1 w _⟩
set_option maxRecDepth 100000 in
set_option maxHeartbeats 2000000 in
theorem rverify_b2 (key e s : Int) (p : Option Addr) (m c : Nat) (w : World) (hk1 : Hid (elB key = true)) (h1 : ¬ e < 0) (h2 : 1073741789 ≤ e) : Calls Tryz.prog 23 #[.int .i64 key, .slice p m c, .agg #[.int .i64 e, .int .i64 s]] w fun r w' => r = .returned (.bool false) ∧ Below w.heap.size w w' := by
  have V := Blk.new w #[.int .i64 e, .int .i64 s] 46
  have c0 := V.cell 0
  have c1 := V.cell 1
  clear V
  go_enter Tryz.func23, Tryz.ntmps23
  go_wp2_with (go_at_call 63; refine (rvalid_is key true _ hk1).mono ?_; rintro r u1 ⟨rfl, rfl⟩)
  go_ret
  exact ⟨rfl, bel_alloc1 w _⟩
set_option maxRecDepth 100000 in
set_option maxHeartbeats 2000000 in
theorem rverify_b3 (key e s : Int) (p : Option Addr) (m c : Nat) (w : World) (hk1 : Hid (elB key = true)) (h1 : ¬ e < 0) (h2 : ¬ 1073741789 ≤ e) (h3 : s < 0) : Calls Tryz.prog 23 #[.int .i64 key, .slice p m c, .agg #[.int .i64 e, .int .i64 s]] w fun r w' => r = .returned (.bool false) ∧ Below w.heap.size w w' := by
  have V := Blk.new w #[.int .i64 e, .int .i64 s] 46
  have c0 := V.cell 0
  have c1 := V.cell 1
  clear V
  go_enter Tryz.func23, Tryz.ntmps23
  go_wp2_with (go_at_call 63; refine (rvalid_is key true _ hk1).mono ?_; rintro r u1 ⟨rfl, rfl⟩)
  go_ret
  exact ⟨rfl, bel_alloc1 w _⟩
set_option maxRecDepth 100000 in
set_option maxHeartbeats 2000000 in
theorem rverify_b4 (key e s : Int) (p : Option Addr) (m c : Nat) (w : World) (hk1 : Hid (elB key = true)) (h1 : ¬ e < 0) (h2 : ¬ 1073741789 ≤ e) (h3 : ¬ s < 0) (h4 : 1073741789 ≤ s) : Calls Tryz.prog 23 #[.int .i64 key, .slice p m c, .agg #[.int .i64 e, .int .i64 s]] w fun r w' => r = .returned (.bool false) ∧ Below w.heap.size w w' := by
  have V := Blk.new w #[.int .i64 e, .int .i64 s] 46
  have c0 := V.cell 0
  have c1 := V.cell 1
  clear V
  go_enter Tryz.func23, Tryz.ntmps23
  go_wp2_with (go_at_call 63; refine (rvalid_is key true _ hk1).mono ?_; rintro r u1 ⟨rfl, rfl⟩)
  go_ret
  exact ⟨rfl, bel_alloc1 w _⟩
set_option maxRecDepth 100000 in
set_option maxHeartbeats 4000000 in
theorem rverify_good (key e s : Int) (p : Option Addr) (m c : Nat) (bs : List Int) (w : World) (hk1 : Hid (elB key = true))  (h1 : ¬ e < 0) (h2 : ¬ 1073741789 ≤ e) (h3 : ¬ s < 0) (h4 : ¬ 1073741789 ≤ s) (hs : Hid (txOk bs)) (hz : Hid (SrcW w p m c bs)) (pt h : Int) (HPT : Hid (IsPt key e s pt)) (HPB : Hid (0 ≤ pt ∧ pt < 2147483579)) (HKB : Hid (0 ≤ key ∧ key < 2147483579)) (HCH : Hid (IsCh pt key bs h)) :
    Calls Tryz.prog 23 #[.int .i64 key, .slice p m c, .agg #[.int .i64 e, .int .i64 s]] w fun r w' => r = .returned (.bool (e == h)) ∧ Below w.heap.size w w' := by
  have V := Blk.new w #[.int .i64 e, .int .i64 s] 46
  have c0 := V.cell 0
  have c1 := V.cell 1
  clear V
  go_enter Tryz.func23, Tryz.ntmps23
  go_wp2_with (go_at_call 63; refine (rvalid_is key true _ hk1).mono ?_; rintro r u1 ⟨rfl, rfl⟩)
  refine wp_region_any (by kernel_rfl) ?_
  change wpAny _ _ _ _ _ _ _ (World.drew _)
  generalize hWD : World.drew _ = W
  have EW := Lib.hid (show Below w.heap.size w W by rw [← hWD]; exact (bel_alloc1 w _).drew)
  have VW := Lib.hid (show Blk W w.heap.size #[.int .i64 e, .int .i64 s] 46 by rw [← hWD]; exact Blk.new w _ _)
  clear hWD c0 c1
  have hCD : ∀ u, Ext W u → Ext W u := fun u hu => hu
  have ZW := Lib.hid (hz.out.below EW.out)
  refine region_U (D := Ext W) (Ext W) [8, 9] (Ext.refl W) ?_
  refine anyU_takeD (i := 0) (v := .pointer (some ⟨w.heap.size, 0, none⟩)) 30 rfl rfl (by kernel_rfl) (by kernel_rfl) (by kernel_rfl) (fun _ _ _ h => h) (by kernel_rfl) (Ext.stable _) hCD (yieldsU_val rfl (fun u hu => by go_simp)) ?_
  refine anyU_takeD (i := 1) (v := .int .i64 e) 31 rfl rfl (by kernel_rfl) (by kernel_rfl) (by kernel_rfl) (fun _ _ _ h => h) (by kernel_rfl) (Ext.stable _) hCD (yieldsU_val rfl (fun u hu => by have cc := (VW.out.below hu VW.out.lt).cell 0; go_simp)) ?_
  refine anyU_takeD (i := 2) (v := .int .i64 key) 32 rfl rfl (by kernel_rfl) (by kernel_rfl) (by kernel_rfl) (fun _ _ _ h => h) (by kernel_rfl) (Ext.stable _) hCD (yieldsU_val rfl (fun u hu => by rfl)) ?_
  refine anyU_takeD (i := 3) (v := .agg #[.int .i64 e, .int .i64 s]) 33 rfl rfl (by kernel_rfl) (by kernel_rfl) (by kernel_rfl) (fun _ _ _ h => h) (by kernel_rfl) (Ext.stable _) hCD (yieldsU_val rfl (fun u hu => by have VV := VW.out.below hu VW.out.lt; have d0 := VV.cell 0; have d1 := VV.cell 1; go_simp)) ?_
  simp only [Act.put, List.setIfInBounds_toArray, List.set_cons_succ, List.set_cons_zero]
  refine anyU_takeD (i := 4) (v := .int .i64 pt) 34 rfl rfl (by kernel_rfl) (by kernel_rfl) (by kernel_rfl) (fun _ _ _ h => h) (by kernel_rfl) (Ext.stable _) hCD (yieldsU_call rfl 64 _ _ rfl #[.int .i64 key, .agg #[.int .i64 e, .int .i64 s]] (by simp [Act.eval, Act.put]) (fun u => by go_simp) (fun u hu => rpoint_is key e s pt u hk1 (by omega) (by omega) HPT)) ?_
  simp only [Act.put, List.setIfInBounds_toArray, List.set_cons_succ, List.set_cons_zero]
  refine anyU_takeD (i := 5) (v := .int .i64 key) 35 rfl rfl (by kernel_rfl) (by kernel_rfl) (by kernel_rfl) (fun _ _ _ h => h) (by kernel_rfl) (Ext.stable _) hCD (yieldsU_val rfl (fun u hu => by rfl)) ?_
  refine anyU_takeD (i := 6) (v := .slice p m c) 36 rfl rfl (by kernel_rfl) (by kernel_rfl) (by kernel_rfl) (fun _ _ _ h => h) (by kernel_rfl) (Ext.stable _) hCD (yieldsU_val rfl (fun u hu => by rfl)) ?_
  refine anyU_takeD (i := 7) (v := .int .i64 h) 37 rfl rfl (by kernel_rfl) (by kernel_rfl) (by kernel_rfl) (fun _ _ _ h => h) (by kernel_rfl) (Ext.stable _) hCD (yieldsU_call rfl 54 _ _ rfl #[.int .i64 pt, .int .i64 key, .slice p m c] (by simp [Act.eval, Act.put]) (fun u => by go_simp) (fun u hu => rchallenge_any pt key p m c bs u HPB.out HKB.out hs (Lib.hid (ZW.out.below hu)) h HCH)) ?_
  simp only [Act.put, List.setIfInBounds_toArray, List.set_cons_succ, List.set_cons_zero]
  refine anyU_tail 8 [9] rfl rfl (by decide) (by kernel_rfl) ?_
  intro u1 hu
  simp only [Act.put, List.filterMap_cons, List.filterMap_nil, List.getElem?_cons_succ, List.getElem?_cons_zero]
  have BU := Lib.hid (bel_trans EW.out hu)
  clear hu
  go_wp2_with fail
  go_ret
  exact ⟨rfl, BU.out⟩
theorem rverify_is (key e s : Int) (p : Option Addr) (m c : Nat) (bs : List Int) (w : World) (hs : Hid (txOk bs)) (hz : Hid (SrcW w p m c bs)) (v : Bool) (hv : Hid (IsVer key bs e s v)) :
    Calls Tryz.prog 23 #[.int .i64 key, .slice p m c, .agg #[.int .i64 e, .int .i64 s]] w fun r w' => r = .returned (.bool v) ∧ Below w.heap.size w w' := by
  obtain ⟨h, hc, hvv⟩ := hv.out
  have qe : ∀ n : Int, n < 0 → inQ n = false := fun n h => by unfold inQ; simp; omega
  have qb : ∀ n : Int, 1073741789 ≤ n → inQ n = false := fun n h => by unfold inQ; simp; omega
  cases hk : elB key with
  | false => rw [hk] at hvv; subst hvv; exact rverify_b0 key e s p m c w (Lib.hid hk)
  | true =>
    by_cases h1 : e < 0
    · rw [hk, qe e h1] at hvv; subst hvv; exact rverify_b1 key e s p m c w (Lib.hid hk) h1
    by_cases h2 : 1073741789 ≤ e
    · rw [hk, qb e h2] at hvv; subst hvv; exact rverify_b2 key e s p m c w (Lib.hid hk) h1 h2
    by_cases h3 : s < 0
    · rw [hk, qe s h3, Bool.and_false] at hvv; subst hvv; exact rverify_b3 key e s p m c w (Lib.hid hk) h1 h2 h3
    by_cases h4 : 1073741789 ≤ s
    · rw [hk, qb s h4, Bool.and_false] at hvv; subst hvv; exact rverify_b4 key e s p m c w (Lib.hid hk) h1 h2 h3 h4
    obtain ⟨pt, hpt⟩ := isPt key e s
    have pe := ptZ_el (e := e) (s := s) hk
    rw [hpt.eq] at hc pe
    have b1 := elB_iff pe
    have b2 := elB_iff hk
    have hg := rverify_good key e s p m c bs w (Lib.hid hk) h1 h2 h3 h4 hs hz pt h (Lib.hid hpt) (Lib.hid ⟨by omega, by omega⟩) (Lib.hid ⟨by omega, by omega⟩) (Lib.hid hc)
    rw [hk, inQ_iff.2 ⟨by omega, by omega⟩, inQ_iff.2 ⟨by omega, by omega⟩, Bool.true_and, Bool.true_and] at hvv
    have : (e == h) = v := by rw [hvv]; by_cases q : e = h <;> simp [q]
    rw [this] at hg
    exact hg
end Go.Proofs.YtpjobllfiimdkaaGreatDoor
namespace Go.Proofs.YtpjobllfiimdkaaGreatDoor
open Go.RowKit
set_option linter.unusedVariables false
set_option linter.unusedSimpArgs false

theorem renc2 (a : Int) (ha : 0 ≤ a ∧ a < 2147483579) (bs : List Int) (st : ByteArray) (w : World) (g : Nat) (hst : strB bs = st) (hs : Hid (txOk bs)) (hB : Hid (Blk w g #[.int .i64 1, .int .i64 a, .string ⟨#[]⟩, .slice none 0 0, .int .i64 2, .int .i64 0, .string st, .slice none 0 0] 84)) :
    Calls Tryz.prog 48 #[.agg #[.int .i64 3, .int .i64 0, .string ⟨#[]⟩, .slice (some ⟨g, 0, none⟩) 2 2]] w
      fun e w' => ∃ v', e = .returned (.tuple #[v', .int .i64 0]) ∧ Own8 w' w.heap.size v' (encL [.int a, .text bs]) ∧ Below w.heap.size w w' := by
  subst hst
  have hB := hB.out
  refine rEncode_list [.int a, .text bs] g 0 2 2 w (Lib.hid rfl) (by omega) (Lib.hid (ok2 ha hs.out)) hB.lt (Lib.hid ?_) (Lib.hid (by rw [lenA2]; have := hs.out.1; omega))
  intro k hk
  have hk' : k < 2 := hk
  rcases (by omega : k = 0 ∨ k = 1) with rfl | rfl
  · exact ⟨hB.cell 0, hB.cell 1, hB.cell 2, hB.cell 3⟩
  · exact ⟨hB.cell 4, hB.cell 5, hB.cell 6, hB.cell 7⟩
set_option maxRecDepth 100000 in
set_option maxHeartbeats 2000000 in
theorem rsign_no (x : Int) (p : Option Addr) (m c : Nat) (w : World) (hx : x < 1 ∨ 1073741789 ≤ x) : Calls Tryz.prog 19 #[.int .i64 x, .slice p m c] w fun e w' => e = .returned (.tuple #[.agg #[.int .i64 0, .int .i64 0], .int .i64 110]) ∧ Below w.heap.size w w' := by
  rcases hx with hx | hx
  · go_enter Tryz.func19, Tryz.ntmps19
    go_wp2_with fail
    refine bodyPost_ret (v := .tuple #[.agg #[.int .i64 0, .int .i64 0], .int .i64 110]) (by simp [results, Tryz.results19, go_sem]) rfl ⟨rfl, ?_⟩
    repeat refine Below.setCell ?_ (by simp) _
    exact bel_alloc1 w _
  · have hx1 : ¬ x < 1 := by omega
    go_enter Tryz.func19, Tryz.ntmps19
    go_wp2_with fail
    refine bodyPost_ret (v := .tuple #[.agg #[.int .i64 0, .int .i64 0], .int .i64 110]) (by simp [results, Tryz.results19, go_sem]) rfl ⟨rfl, ?_⟩
    repeat refine Below.setCell ?_ (by simp) _
    exact bel_alloc1 w _
set_option maxRecDepth 100000 in
set_option maxHeartbeats 4000000 in
theorem rsign_big (x : Int) (p : Option Addr) (m c : Nat) (bs : List Int) (w : World) (x0 : 1 ≤ x) (x1 : x < 1073741789) (hs : Hid (txOk bs)) (hz : Hid (SrcW w p m c bs)) (e s h0 pt ky : Int) (HH0 : Hid (IsHash tNonce (encL [.int x, .text bs]) h0)) (hz0 : (h0 == 0) = false) (k0 : 1 ≤ h0) (k1 : h0 < 1073741789) (e0 : 0 ≤ e) (e1 : e < 1073741789) (HPT : Hid (IsPw 4 h0 pt)) (HKY : Hid (IsPw 4 x ky)) (HPB : Hid (0 ≤ pt ∧ pt < 2147483579)) (HKB : Hid (0 ≤ ky ∧ ky < 2147483579)) (HCH : Hid (IsCh pt ky bs e)) (pr : Int) (p0 : 0 ≤ pr) (p1 : pr < 1073741789) (HPR : Hid (tmsQ e x = pr)) (HS : Hid (s = (h0 + pr) % 1073741789)) :
    Calls Tryz.prog 19 #[.int .i64 x, .slice p m c] w fun r w' => r = .returned (.tuple #[.agg #[.int .i64 e, .int .i64 s], .int .i64 0]) ∧ Below w.heap.size w w' := by
  have HX := Lib.hid (show 0 ≤ x ∧ x < 2147483579 by omega)
  obtain ⟨st, hst⟩ : ∃ st, strB bs = st := ⟨_, rfl⟩
  have HST := Lib.hid hst
  clear hst
  go_enter Tryz.func19, Tryz.ntmps19
  go_wp2_with fail
  refine wp_region_any (by kernel_rfl) ?_
  change wpAny _ _ _ _ _ _ _ (World.drew _)
  generalize hWD : World.drew _ = W
  have EW := Lib.hid (show Below w.heap.size w W by rw [← hWD]; exact (bel_alloc1 w _).drew)
  have VW := Lib.hid (show Blk W w.heap.size #[.int .i64 0, .int .i64 0] 46 by rw [← hWD]; exact Blk.new w _ _)
  clear hWD
  have hCD : ∀ u, Ext W u → Ext W u := fun u hu => hu
  have ZW := Lib.hid (hz.out.below EW.out)
  refine region_U (D := Ext W) (Ext W) [12] (Ext.refl W) ?_
  refine anyU_takeD (i := 0) (v := .int .i64 x) 22 rfl rfl (by kernel_rfl) (by kernel_rfl) (by kernel_rfl) (fun _ _ _ h => h) (by kernel_rfl) (Ext.stable _) hCD (yieldsU_val rfl (fun u hu => by rfl)) ?_
  refine anyU_takeD (i := 1) (v := .agg #[.int .i64 1, .int .i64 x, .string ⟨#[]⟩, .slice none 0 0]) 23 rfl rfl (by kernel_rfl) (by kernel_rfl) (by kernel_rfl) (fun _ _ _ h => h) (by kernel_rfl) (Ext.stable _) hCD (yieldsU_call rfl 50 _ _ rfl #[.int .i64 x] (by simp [Act.eval, Act.put]) (fun u => by go_simp) (fun u hu => rInt_any x u)) ?_
  simp only [Act.put, List.setIfInBounds_toArray, List.set_cons_succ, List.set_cons_zero]
  refine anyU_takeD (i := 2) (v := .slice p m c) 24 rfl rfl (by kernel_rfl) (by kernel_rfl) (by kernel_rfl) (fun _ _ _ h => h) (by kernel_rfl) (Ext.stable _) hCD (yieldsU_val rfl (fun u hu => by rfl)) ?_
  refine anyU_takeD (i := 3) (v := .string st) 25 rfl rfl (by kernel_rfl) (by kernel_rfl) (by kernel_rfl) (fun _ _ _ h => h) (by kernel_rfl) (Ext.stable _) hCD (yieldsU_val rfl (fun u hu => by have hc := conv_srcW (ZW.out.below hu); rw [HST.out] at hc; go_simp)) ?_
  refine anyU_takeD (i := 4) (v := .agg #[.int .i64 2, .int .i64 0, .string st, .slice none 0 0]) 26 rfl rfl (by kernel_rfl) (by kernel_rfl) (by kernel_rfl) (fun _ _ _ h => h) (by kernel_rfl) (Ext.stable _) hCD (yieldsU_call rfl 51 _ _ rfl #[.string st] (by simp [Act.eval, Act.put]) (fun u => by go_simp) (fun u hu => rText_any st u)) ?_
  simp only [Act.put, List.setIfInBounds_toArray, List.set_cons_succ, List.set_cons_zero]
  refine anyU_one 5 7 _ rfl rfl (by kernel_rfl) ?_
  intro u1 hu
  go_wp2_with fail
  change ∃ C' : World → Prop, _ ∧ _ ∧ _ ∧ anyU _ _ _ _ _ _ 7 _ _ _
  have Z1 := Lib.hid (Blk.new u1 #[.int .i64 1, .int .i64 x, .string ⟨#[]⟩, .slice none 0 0, .int .i64 2, .int .i64 0, .string st, .slice none 0 0] 84)
  have E1 := Lib.hid (Ext.trans hu (bel_alloc1 u1 (.cells #[.int .i64 1, .int .i64 x, .string ⟨#[]⟩, .slice none 0 0, .int .i64 2, .int .i64 0, .string st, .slice none 0 0] 84)))
  generalize World.alloc u1 _ = u2 at Z1 E1 ⊢
  generalize u1.heap.size = bb at Z1 ⊢
  clear hu
  refine anchorF (fun z => Ext W z ∧ Blk z bb #[.int .i64 1, .int .i64 x, .string ⟨#[]⟩, .slice none 0 0, .int .i64 2, .int .i64 0, .string st, .slice none 0 0] 84) (fun z hz => hz.1) ((Ext.stable W).and (fun z z' h k => h.below k h.lt)) ⟨E1.out, Z1.out⟩ ?_
  (try simp only [Act.put])
  refine anyU_one 6 6 _ rfl rfl (by kernel_rfl) ?_
  intro u3 hu3
  go_wp2_with fail
  refine (rList_any (some ⟨bb, 0, none⟩) 2 2 u3).mono ?_
  rintro q u4 ⟨rfl, hb⟩
  have X4 := Lib.hid (Ext.trans hu3.1 hb)
  have Z4 := Lib.hid (hu3.2.below hb hu3.2.lt)
  clear hb hu3
  go_wp2_with fail
  change ∃ C' : World → Prop, _ ∧ _ ∧ _ ∧ anyU _ _ _ _ _ _ 6 _ _ _
  refine anchorF (fun z => Ext W z ∧ Blk z bb #[.int .i64 1, .int .i64 x, .string ⟨#[]⟩, .slice none 0 0, .int .i64 2, .int .i64 0, .string st, .slice none 0 0] 84) (fun z hz => hz.1) ((Ext.stable W).and (fun z z' h k => h.below k h.lt)) ⟨X4.out, Z4.out⟩ ?_
  (try simp only [Act.put])
  refine anyU_one 7 5 _ rfl rfl (by kernel_rfl) ?_
  intro u5 hu5
  go_wp2_with fail
  refine (renc2 x HX.out bs st u5 bb HST.out hs (Lib.hid hu5.2)).mono ?_
  rintro q u6 ⟨v5, rfl, o5, hb⟩
  have X6 := Lib.hid (Ext.trans hu5.1 hb)
  have O6 := Lib.hid (own8_mono o5 hu5.1.size)
  clear o5 hb hu5
  go_wp2_with fail
  change ∃ C' : World → Prop, _ ∧ _ ∧ _ ∧ anyU _ _ _ _ _ _ 5 _ _ _
  have hST2 : Stable (fun z => Ext W z ∧ Own8 z W.heap.size v5 (encL [.int x, .text bs])) := ((Ext.stable W).and (fun z z' h k => own8_below h k))
  have hF2 : ∀ z, (fun z => Ext W z ∧ Own8 z W.heap.size v5 (encL [.int x, .text bs])) z → Ext W z := fun z hz => hz.1
  refine anchorF (fun z => Ext W z ∧ Own8 z W.heap.size v5 (encL [.int x, .text bs])) (fun z hz => hz.1) hST2 ⟨X6.out, O6.out⟩ ?_
  (try simp only [Act.put])
  refine anyU_takeD (i := 8) (v := .tuple #[v5, .int .i64 0]) 21 rfl rfl (by kernel_rfl) (by kernel_rfl) (by kernel_rfl) (fun _ _ _ h => h) (by kernel_rfl) hST2 hF2 (yieldsU_val rfl (fun u hu => by rfl)) ?_
  refine anyU_takeD (i := 9) (v := v5) 30 rfl rfl (by kernel_rfl) (by kernel_rfl) (by kernel_rfl) (fun _ _ _ h => h) (by kernel_rfl) hST2 hF2 (yieldsU_val rfl (fun u hu => by go_simp)) ?_
  refine anyU_takeD (i := 10) (v := .int .i64 0) 31 rfl rfl (by kernel_rfl) (by kernel_rfl) (by kernel_rfl) (fun _ _ _ h => h) (by kernel_rfl) hST2 hF2 (yieldsU_val rfl (fun u hu => by go_simp)) ?_
  simp only [Act.put, List.setIfInBounds_toArray, List.set_cons_succ, List.set_cons_zero]
  refine anyU_one 11 1 _ rfl rfl (by kernel_rfl) ?_
  intro u7 hu7
  go_wp2_with fail
  change ∃ C' : World → Prop, _ ∧ _ ∧ _ ∧ anyU _ _ _ _ _ _ 1 _ _ _
  refine anchorF (fun z => Ext W z ∧ Own8 z W.heap.size v5 (encL [.int x, .text bs])) (fun z hz => hz.1) hST2 hu7 ?_
  (try simp only [Act.put])
  refine anyU_tail 12 [] rfl rfl (by decide) (by kernel_rfl) ?_
  intro u8 hu8
  simp only [Act.put, List.filterMap_cons, List.filterMap_nil, List.getElem?_cons_succ, List.getElem?_cons_zero]
  have X8 := Lib.hid hu8.1
  have O8 := Lib.hid hu8.2
  clear hu8 hST2 hF2
  have B8 := Lib.hid (bel_trans EW.out X8.out)
  have V8 := Lib.hid (VW.out.below X8.out VW.out.lt)
  go_wp2_with (first
    | (go_at_call 52; refine (rhash_is _ tNonce _ _ v5 u8 strNonce O8 (Lib.hid (ok2 HX.out hs.out)) (by simp) (by rw [lenA2]; have := hs.out.1; omega) (by decide) h0 HH0).mono ?_; rintro q u9 ⟨rfl, hb⟩; have B9 := Lib.hid (bel_trans B8.out hb); have V9 := Lib.hid (V8.out.below hb V8.out.lt); clear hb)
    | (go_at_call 53; ((with_reducible refine (rpow_is 4 x ky _ HKY (Lib.hid pe4)).mono ?_); rintro q w' ⟨rfl, rfl⟩))
    | (go_at_call 53; ((with_reducible refine (rpow_is 4 h0 pt _ HPT (Lib.hid pe4)).mono ?_); rintro q w' ⟨rfl, rfl⟩))
    | (go_at_call 54; refine (rchallenge_any pt ky p m c bs u9 HPB.out HKB.out hs (Lib.hid (hz.out.below B9.out)) e HCH).mono ?_; rintro q u10 ⟨rfl, hb⟩; have B10 := Lib.hid (bel_trans B9.out hb); have V10 := V9.out.below hb V9.out.lt; have g0 := V10.cell 0; have g1 := V10.cell 1; have f0 := V10.frozen 0; have f1 := V10.frozen 1; have V10H := Lib.hid V10; clear hb V10)
    | (go_at_call 55; refine (rtimes_any e x _).mono ?_; rintro q w' ⟨rfl, rfl⟩; rw [HPR.out]))
  try rw [← HS.out]
  have VV : Blk _ w.heap.size #[.int .i64 e, .int .i64 s] 46 := (V10H.out.set 0 (.int .i64 e)).set 1 (.int .i64 s)
  have c0 := VV.cell 0
  have c1 := VV.cell 1
  refine bodyPost_ret (v := .tuple #[.agg #[.int .i64 e, .int .i64 s], .int .i64 0]) (by simp only [results, Tryz.results19]; simp [go_sem, c0, c1]) rfl ⟨rfl, ?_⟩
  repeat refine Below.setCell ?_ (by simp) _
  exact B10.out
set_option maxRecDepth 100000 in
set_option maxHeartbeats 4000000 in
theorem rsign_one (x : Int) (p : Option Addr) (m c : Nat) (bs : List Int) (w : World) (x0 : 1 ≤ x) (x1 : x < 1073741789) (hs : Hid (txOk bs)) (hz : Hid (SrcW w p m c bs)) (e s pt ky : Int) (HH0 : Hid (IsHash tNonce (encL [.int x, .text bs]) 0))  (e0 : 0 ≤ e) (e1 : e < 1073741789) (HPT : Hid (IsPw 4 1 pt)) (HKY : Hid (IsPw 4 x ky)) (HPB : Hid (0 ≤ pt ∧ pt < 2147483579)) (HKB : Hid (0 ≤ ky ∧ ky < 2147483579)) (HCH : Hid (IsCh pt ky bs e)) (pr : Int) (p0 : 0 ≤ pr) (p1 : pr < 1073741789) (HPR : Hid (tmsQ e x = pr)) (HS : Hid (s = (1 + pr) % 1073741789)) :
    Calls Tryz.prog 19 #[.int .i64 x, .slice p m c] w fun r w' => r = .returned (.tuple #[.agg #[.int .i64 e, .int .i64 s], .int .i64 0]) ∧ Below w.heap.size w w' := by
  have HX := Lib.hid (show 0 ≤ x ∧ x < 2147483579 by omega)
  obtain ⟨st, hst⟩ : ∃ st, strB bs = st := ⟨_, rfl⟩
  have HST := Lib.hid hst
  clear hst
  go_enter Tryz.func19, Tryz.ntmps19
  go_wp2_with fail
  refine wp_region_any (by kernel_rfl) ?_
  change wpAny _ _ _ _ _ _ _ (World.drew _)
  generalize hWD : World.drew _ = W
  have EW := Lib.hid (show Below w.heap.size w W by rw [← hWD]; exact (bel_alloc1 w _).drew)
  have VW := Lib.hid (show Blk W w.heap.size #[.int .i64 0, .int .i64 0] 46 by rw [← hWD]; exact Blk.new w _ _)
  clear hWD
  have hCD : ∀ u, Ext W u → Ext W u := fun u hu => hu
  have ZW := Lib.hid (hz.out.below EW.out)
  refine region_U (D := Ext W) (Ext W) [12] (Ext.refl W) ?_
  refine anyU_takeD (i := 0) (v := .int .i64 x) 22 rfl rfl (by kernel_rfl) (by kernel_rfl) (by kernel_rfl) (fun _ _ _ h => h) (by kernel_rfl) (Ext.stable _) hCD (yieldsU_val rfl (fun u hu => by rfl)) ?_
  refine anyU_takeD (i := 1) (v := .agg #[.int .i64 1, .int .i64 x, .string ⟨#[]⟩, .slice none 0 0]) 23 rfl rfl (by kernel_rfl) (by kernel_rfl) (by kernel_rfl) (fun _ _ _ h => h) (by kernel_rfl) (Ext.stable _) hCD (yieldsU_call rfl 50 _ _ rfl #[.int .i64 x] (by simp [Act.eval, Act.put]) (fun u => by go_simp) (fun u hu => rInt_any x u)) ?_
  simp only [Act.put, List.setIfInBounds_toArray, List.set_cons_succ, List.set_cons_zero]
  refine anyU_takeD (i := 2) (v := .slice p m c) 24 rfl rfl (by kernel_rfl) (by kernel_rfl) (by kernel_rfl) (fun _ _ _ h => h) (by kernel_rfl) (Ext.stable _) hCD (yieldsU_val rfl (fun u hu => by rfl)) ?_
  refine anyU_takeD (i := 3) (v := .string st) 25 rfl rfl (by kernel_rfl) (by kernel_rfl) (by kernel_rfl) (fun _ _ _ h => h) (by kernel_rfl) (Ext.stable _) hCD (yieldsU_val rfl (fun u hu => by have hc := conv_srcW (ZW.out.below hu); rw [HST.out] at hc; go_simp)) ?_
  refine anyU_takeD (i := 4) (v := .agg #[.int .i64 2, .int .i64 0, .string st, .slice none 0 0]) 26 rfl rfl (by kernel_rfl) (by kernel_rfl) (by kernel_rfl) (fun _ _ _ h => h) (by kernel_rfl) (Ext.stable _) hCD (yieldsU_call rfl 51 _ _ rfl #[.string st] (by simp [Act.eval, Act.put]) (fun u => by go_simp) (fun u hu => rText_any st u)) ?_
  simp only [Act.put, List.setIfInBounds_toArray, List.set_cons_succ, List.set_cons_zero]
  refine anyU_one 5 7 _ rfl rfl (by kernel_rfl) ?_
  intro u1 hu
  go_wp2_with fail
  change ∃ C' : World → Prop, _ ∧ _ ∧ _ ∧ anyU _ _ _ _ _ _ 7 _ _ _
  have Z1 := Lib.hid (Blk.new u1 #[.int .i64 1, .int .i64 x, .string ⟨#[]⟩, .slice none 0 0, .int .i64 2, .int .i64 0, .string st, .slice none 0 0] 84)
  have E1 := Lib.hid (Ext.trans hu (bel_alloc1 u1 (.cells #[.int .i64 1, .int .i64 x, .string ⟨#[]⟩, .slice none 0 0, .int .i64 2, .int .i64 0, .string st, .slice none 0 0] 84)))
  generalize World.alloc u1 _ = u2 at Z1 E1 ⊢
  generalize u1.heap.size = bb at Z1 ⊢
  clear hu
  refine anchorF (fun z => Ext W z ∧ Blk z bb #[.int .i64 1, .int .i64 x, .string ⟨#[]⟩, .slice none 0 0, .int .i64 2, .int .i64 0, .string st, .slice none 0 0] 84) (fun z hz => hz.1) ((Ext.stable W).and (fun z z' h k => h.below k h.lt)) ⟨E1.out, Z1.out⟩ ?_
  (try simp only [Act.put])
  refine anyU_one 6 6 _ rfl rfl (by kernel_rfl) ?_
  intro u3 hu3
  go_wp2_with fail
  refine (rList_any (some ⟨bb, 0, none⟩) 2 2 u3).mono ?_
  rintro q u4 ⟨rfl, hb⟩
  have X4 := Lib.hid (Ext.trans hu3.1 hb)
  have Z4 := Lib.hid (hu3.2.below hb hu3.2.lt)
  clear hb hu3
  go_wp2_with fail
  change ∃ C' : World → Prop, _ ∧ _ ∧ _ ∧ anyU _ _ _ _ _ _ 6 _ _ _
  refine anchorF (fun z => Ext W z ∧ Blk z bb #[.int .i64 1, .int .i64 x, .string ⟨#[]⟩, .slice none 0 0, .int .i64 2, .int .i64 0, .string st, .slice none 0 0] 84) (fun z hz => hz.1) ((Ext.stable W).and (fun z z' h k => h.below k h.lt)) ⟨X4.out, Z4.out⟩ ?_
  (try simp only [Act.put])
  refine anyU_one 7 5 _ rfl rfl (by kernel_rfl) ?_
  intro u5 hu5
  go_wp2_with fail
  refine (renc2 x HX.out bs st u5 bb HST.out hs (Lib.hid hu5.2)).mono ?_
  rintro q u6 ⟨v5, rfl, o5, hb⟩
  have X6 := Lib.hid (Ext.trans hu5.1 hb)
  have O6 := Lib.hid (own8_mono o5 hu5.1.size)
  clear o5 hb hu5
  go_wp2_with fail
  change ∃ C' : World → Prop, _ ∧ _ ∧ _ ∧ anyU _ _ _ _ _ _ 5 _ _ _
  have hST2 : Stable (fun z => Ext W z ∧ Own8 z W.heap.size v5 (encL [.int x, .text bs])) := ((Ext.stable W).and (fun z z' h k => own8_below h k))
  have hF2 : ∀ z, (fun z => Ext W z ∧ Own8 z W.heap.size v5 (encL [.int x, .text bs])) z → Ext W z := fun z hz => hz.1
  refine anchorF (fun z => Ext W z ∧ Own8 z W.heap.size v5 (encL [.int x, .text bs])) (fun z hz => hz.1) hST2 ⟨X6.out, O6.out⟩ ?_
  (try simp only [Act.put])
  refine anyU_takeD (i := 8) (v := .tuple #[v5, .int .i64 0]) 21 rfl rfl (by kernel_rfl) (by kernel_rfl) (by kernel_rfl) (fun _ _ _ h => h) (by kernel_rfl) hST2 hF2 (yieldsU_val rfl (fun u hu => by rfl)) ?_
  refine anyU_takeD (i := 9) (v := v5) 30 rfl rfl (by kernel_rfl) (by kernel_rfl) (by kernel_rfl) (fun _ _ _ h => h) (by kernel_rfl) hST2 hF2 (yieldsU_val rfl (fun u hu => by go_simp)) ?_
  refine anyU_takeD (i := 10) (v := .int .i64 0) 31 rfl rfl (by kernel_rfl) (by kernel_rfl) (by kernel_rfl) (fun _ _ _ h => h) (by kernel_rfl) hST2 hF2 (yieldsU_val rfl (fun u hu => by go_simp)) ?_
  simp only [Act.put, List.setIfInBounds_toArray, List.set_cons_succ, List.set_cons_zero]
  refine anyU_one 11 1 _ rfl rfl (by kernel_rfl) ?_
  intro u7 hu7
  go_wp2_with fail
  change ∃ C' : World → Prop, _ ∧ _ ∧ _ ∧ anyU _ _ _ _ _ _ 1 _ _ _
  refine anchorF (fun z => Ext W z ∧ Own8 z W.heap.size v5 (encL [.int x, .text bs])) (fun z hz => hz.1) hST2 hu7 ?_
  (try simp only [Act.put])
  refine anyU_tail 12 [] rfl rfl (by decide) (by kernel_rfl) ?_
  intro u8 hu8
  simp only [Act.put, List.filterMap_cons, List.filterMap_nil, List.getElem?_cons_succ, List.getElem?_cons_zero]
  have X8 := Lib.hid hu8.1
  have O8 := Lib.hid hu8.2
  clear hu8 hST2 hF2
  have B8 := Lib.hid (bel_trans EW.out X8.out)
  have V8 := Lib.hid (VW.out.below X8.out VW.out.lt)
  go_wp2_with (first
    | (go_at_call 52; refine (rhash_is _ tNonce _ _ v5 u8 strNonce O8 (Lib.hid (ok2 HX.out hs.out)) (by simp) (by rw [lenA2]; have := hs.out.1; omega) (by decide) 0 HH0).mono ?_; rintro q u9 ⟨rfl, hb⟩; have B9 := Lib.hid (bel_trans B8.out hb); have V9 := Lib.hid (V8.out.below hb V8.out.lt); clear hb)
    | (go_at_call 53; ((with_reducible refine (rpow_is 4 x ky _ HKY (Lib.hid pe4)).mono ?_); rintro q w' ⟨rfl, rfl⟩))
    | (go_at_call 53; ((with_reducible refine (rpow_is 4 1 pt _ HPT (Lib.hid pe4)).mono ?_); rintro q w' ⟨rfl, rfl⟩))
    | (go_at_call 54; refine (rchallenge_any pt ky p m c bs u9 HPB.out HKB.out hs (Lib.hid (hz.out.below B9.out)) e HCH).mono ?_; rintro q u10 ⟨rfl, hb⟩; have B10 := Lib.hid (bel_trans B9.out hb); have V10 := V9.out.below hb V9.out.lt; have g0 := V10.cell 0; have g1 := V10.cell 1; have f0 := V10.frozen 0; have f1 := V10.frozen 1; have V10H := Lib.hid V10; clear hb V10)
    | (go_at_call 55; refine (rtimes_any e x _).mono ?_; rintro q w' ⟨rfl, rfl⟩; rw [HPR.out]))
  try rw [← HS.out]
  have VV : Blk _ w.heap.size #[.int .i64 e, .int .i64 s] 46 := (V10H.out.set 0 (.int .i64 e)).set 1 (.int .i64 s)
  have c0 := VV.cell 0
  have c1 := VV.cell 1
  refine bodyPost_ret (v := .tuple #[.agg #[.int .i64 e, .int .i64 s], .int .i64 0]) (by simp only [results, Tryz.results19]; simp [go_sem, c0, c1]) rfl ⟨rfl, ?_⟩
  repeat refine Below.setCell ?_ (by simp) _
  exact B10.out
theorem tms_in {e x : Int} (e0 : 0 ≤ e) (e1 : e < 1073741789) (x0 : 0 ≤ x) (x1 : x < 1073741789) : tmsQ e x = e * x % 1073741789 := by
  unfold tmsQ
  rw [show modQ e = e by unfold modQ; omega, show modQ x = x by unfold modQ; omega]
theorem rsign_yes (x : Int) (p : Option Addr) (m c : Nat) (bs : List Int) (w : World) (x0 : 1 ≤ x) (x1 : x < 1073741789) (hs : Hid (txOk bs)) (hz : Hid (SrcW w p m c bs)) (e s : Int) (hsig : Hid (IsSig x bs e s)) :
    Calls Tryz.prog 19 #[.int .i64 x, .slice p m c] w fun r w' => r = .returned (.tuple #[.agg #[.int .i64 e, .int .i64 s], .int .i64 0]) ∧ Below w.heap.size w w' := by
  obtain ⟨k, hk1, hk2, hk3⟩ := hsig.out
  have kr := hk1.rng
  have er := hk2.rng
  obtain ⟨h0, hh0, hkm⟩ := hk1
  have hr0 := hh0.rng
  obtain ⟨pt, hpt⟩ := isPw 4 k
  obtain ⟨ky, hky⟩ := isPw 4 x
  have hpb := elB_iff (powZ_el elB_4 k)
  have hkb := elB_iff (powZ_el elB_4 x)
  rw [hpt.eq, hky.eq] at hk2
  rw [hpt.eq] at hpb
  rw [hky.eq] at hkb
  have ht := tms_in er.1 er.2 (show 0 ≤ x by omega) x1
  have hprb : 0 ≤ e * x % 1073741789 ∧ e * x % 1073741789 < 1073741789 := by omega
  by_cases hc : 1 ≤ h0
  · obtain rfl : k = h0 := by omega
    exact rsign_big x p m c bs w x0 x1 hs hz e s k pt ky (Lib.hid hh0) (by simp; omega) kr.1 kr.2 er.1 er.2 (Lib.hid hpt) (Lib.hid hky) (Lib.hid ⟨by omega, by omega⟩) (Lib.hid ⟨by omega, by omega⟩) (Lib.hid hk2) _ hprb.1 hprb.2 (Lib.hid ht) (Lib.hid hk3)
  · obtain rfl : h0 = 0 := by omega
    obtain rfl : k = 1 := by omega
    exact rsign_one x p m c bs w x0 x1 hs hz e s pt ky (Lib.hid hh0) er.1 er.2 (Lib.hid hpt) (Lib.hid hky) (Lib.hid ⟨by omega, by omega⟩) (Lib.hid ⟨by omega, by omega⟩) (Lib.hid hk2) _ hprb.1 hprb.2 (Lib.hid ht) (Lib.hid hk3)
end Go.Proofs.YtpjobllfiimdkaaGreatDoor
namespace Go.Proofs.YtpjobllfiimdkaaGreatDoor
open Go.RowKit
set_option linter.unusedVariables false
set_option linter.unusedSimpArgs false

theorem rrword_any (n : Int) (w : World) : Calls Tryz.prog 18 #[.int .i64 n] w fun e w' => e = .returned (.bool (wordB n)) ∧ w = w' := by
  by_cases h0 : 1 ≤ n
  case pos =>
    by_cases h1 : n ≤ 1073741789
    case pos =>
      rw [show wordB n = true by simp [wordB, h0, h1]]
      go_enter Tryz.func18, Tryz.ntmps18
      go_wp2_with fail
      go_ret
      exact ⟨rfl, rfl⟩
    case neg =>
      rw [show wordB n = false by unfold wordB; simp; omega]
      go_enter Tryz.func18, Tryz.ntmps18
      go_wp2_with fail
      go_ret
      exact ⟨rfl, rfl⟩
  case neg =>
    rw [show wordB n = false by unfold wordB; simp; omega]
    go_enter Tryz.func18, Tryz.ntmps18
    go_wp2_with fail
    go_ret
    exact ⟨rfl, rfl⟩

theorem rrword_is (n : Int) (v : Bool) (w : World) (h : Hid (wordB n = v)) : Calls Tryz.prog 18 #[.int .i64 n] w fun e w' => e = .returned (.bool v) ∧ w = w' := by
  rw [← h.out]; exact rrword_any n w
set_option maxRecDepth 100000 in
set_option maxHeartbeats 2000000 in
theorem rrtext_is (a b c : Int) (w : World) (hok : Hid (∀ x ∈ intsA [a, b, c], x.ok)) :
    Calls Tryz.prog 20 #[.agg #[.int .i64 a, .int .i64 b, .int .i64 c]] w fun e w' => ∃ v', e = .returned v' ∧ Own8 w' w.heap.size v' (ltx a b c) ∧ Below w.heap.size w w' := by
  have A0 := Lib.hid (Blk.new w #[.int .i64 a, .int .i64 b, .int .i64 c] 23)
  have B0 := Lib.hid (bel_alloc1 w (.cells #[.int .i64 a, .int .i64 b, .int .i64 c] 23))
  go_enter Tryz.func20, Tryz.ntmps20
  go_upto_region 1 with fail
  generalize World.alloc w _ = W at A0 B0 ⊢
  have a0 := A0.out.cell 0
  have a1 := A0.out.cell 1
  have a2 := A0.out.cell 2
  go_wp2_with (first
    | (go_at_call 56; refine (rInts_is [a, b, c] W.heap.size 3 _ (Lib.hid rfl) (by omega) (by omega) (by simp) (Lib.hid fun j h => by have := ints_new [a, b, c] W 3 j h; rwa [Nat.zero_add] at this)).mono ?_; rintro e w1 ⟨g, gc, rfl, hg, ga, hb⟩; have GA := Lib.hid ga; have HG := Lib.hid hg; have BA := Lib.hid ((bel_alloc1 W _).trans (hb.mono (by simp))); have B1 := Lib.hid (bel_trans B0.out BA.out); clear ga hg hb a0 a1 a2)
    | (go_at_call 48; refine (rEncode_list (intsA [a, b, c]) g 0 3 gc _ (Lib.hid rfl) (by omega) hok HG.out GA (Lib.hid (by rw [len3]; omega))).mono ?_; rintro e w2 ⟨v2, rfl, o2, hb⟩; have O2 := Lib.hid (own8_mono o2 B1.out.size); have B2 := Lib.hid (bel_trans B1.out hb); clear o2 hb))
  go_ret
  exact ⟨v2, rfl, O2.out, B2.out⟩
set_option maxRecDepth 100000 in
set_option maxHeartbeats 2000000 in
theorem rrChk_n1 (key a b c x y z : Int) (w : World) (h1 : Hid (wordB y = false)) :
    Calls Tryz.prog 9 #[.int .i64 key, .agg #[.int .i64 a, .int .i64 b, .int .i64 c], .agg #[.int .i64 x, .int .i64 y, .int .i64 z]] w fun r w' => r = .returned (.bool false) ∧ Below w.heap.size w w' := by
  have A0 := Lib.hid ((Blk.new w #[.int .i64 a, .int .i64 b, .int .i64 c] 23).alloc (.cells #[.int .i64 x, .int .i64 y, .int .i64 z] 23))
  have X0 := Lib.hid (show Blk ((w.alloc (.cells #[.int .i64 a, .int .i64 b, .int .i64 c] 23)).alloc (.cells #[.int .i64 x, .int .i64 y, .int .i64 z] 23)) (w.heap.size + 1) #[.int .i64 x, .int .i64 y, .int .i64 z] 23 by have := Blk.new (w.alloc (.cells #[.int .i64 a, .int .i64 b, .int .i64 c] 23)) #[.int .i64 x, .int .i64 y, .int .i64 z] 23; simpa using this)
  have B0 := Lib.hid (show Below w.heap.size w ((w.alloc (.cells #[.int .i64 a, .int .i64 b, .int .i64 c] 23)).alloc (.cells #[.int .i64 x, .int .i64 y, .int .i64 z] 23)) from (bel_alloc1 w _).alloc (by simp) _)
  go_enter Tryz.func9, Tryz.ntmps9
  go_upto_region 1 with fail
  generalize World.alloc (World.alloc w _) _ = W0 at A0 X0 B0 ⊢
  have x0 := X0.out.cell 0
  have x1 := X0.out.cell 1
  have x2 := X0.out.cell 2
  go_wp2_with (go_at_call 18; refine (rrword_is y false _ h1).mono ?_; rintro r u1 ⟨rfl, rfl⟩)
  go_ret
  exact ⟨rfl, B0.out⟩
set_option maxRecDepth 100000 in
set_option maxHeartbeats 2000000 in
theorem rrChk_n2 (key a b c x y z : Int) (w : World) (h1 : Hid (wordB y = true)) (h2 : Hid (wordB z = false)) :
    Calls Tryz.prog 9 #[.int .i64 key, .agg #[.int .i64 a, .int .i64 b, .int .i64 c], .agg #[.int .i64 x, .int .i64 y, .int .i64 z]] w fun r w' => r = .returned (.bool false) ∧ Below w.heap.size w w' := by
  have A0 := Lib.hid ((Blk.new w #[.int .i64 a, .int .i64 b, .int .i64 c] 23).alloc (.cells #[.int .i64 x, .int .i64 y, .int .i64 z] 23))
  have X0 := Lib.hid (show Blk ((w.alloc (.cells #[.int .i64 a, .int .i64 b, .int .i64 c] 23)).alloc (.cells #[.int .i64 x, .int .i64 y, .int .i64 z] 23)) (w.heap.size + 1) #[.int .i64 x, .int .i64 y, .int .i64 z] 23 by have := Blk.new (w.alloc (.cells #[.int .i64 a, .int .i64 b, .int .i64 c] 23)) #[.int .i64 x, .int .i64 y, .int .i64 z] 23; simpa using this)
  have B0 := Lib.hid (show Below w.heap.size w ((w.alloc (.cells #[.int .i64 a, .int .i64 b, .int .i64 c] 23)).alloc (.cells #[.int .i64 x, .int .i64 y, .int .i64 z] 23)) from (bel_alloc1 w _).alloc (by simp) _)
  go_enter Tryz.func9, Tryz.ntmps9
  go_upto_region 1 with fail
  generalize World.alloc (World.alloc w _) _ = W0 at A0 X0 B0 ⊢
  have x0 := X0.out.cell 0
  have x1 := X0.out.cell 1
  have x2 := X0.out.cell 2
  go_wp2_with (first
    | (go_at_call 18; refine (rrword_is y true _ h1).mono ?_; rintro r u1 ⟨rfl, rfl⟩)
    | (go_at_call 18; refine (rrword_is z false _ h2).mono ?_; rintro r u1 ⟨rfl, rfl⟩))
  go_ret
  exact ⟨rfl, B0.out⟩
set_option maxRecDepth 100000 in
set_option maxHeartbeats 4000000 in
theorem rrChk_is (key a b c x y z e s : Int) (v : Bool) (w : World) (h1 : Hid (wordB y = true)) (h2 : Hid (wordB z = true)) (hok : Hid (∀ x ∈ intsA [a, b, c], x.ok)) (he : IntKind.i64.wrap (y - 1) = e) (hs : IntKind.i64.wrap (z - 1) = s) (hv : Hid (IsVer key (ltx a b c) e s v)) :
    Calls Tryz.prog 9 #[.int .i64 key, .agg #[.int .i64 a, .int .i64 b, .int .i64 c], .agg #[.int .i64 x, .int .i64 y, .int .i64 z]] w fun r w' => r = .returned (.bool v) ∧ Below w.heap.size w w' := by
  have A0 := Lib.hid ((Blk.new w #[.int .i64 a, .int .i64 b, .int .i64 c] 23).alloc (.cells #[.int .i64 x, .int .i64 y, .int .i64 z] 23))
  have X0 := Lib.hid (show Blk ((w.alloc (.cells #[.int .i64 a, .int .i64 b, .int .i64 c] 23)).alloc (.cells #[.int .i64 x, .int .i64 y, .int .i64 z] 23)) (w.heap.size + 1) #[.int .i64 x, .int .i64 y, .int .i64 z] 23 by have := Blk.new (w.alloc (.cells #[.int .i64 a, .int .i64 b, .int .i64 c] 23)) #[.int .i64 x, .int .i64 y, .int .i64 z] 23; simpa using this)
  have B0 := Lib.hid (show Below w.heap.size w ((w.alloc (.cells #[.int .i64 a, .int .i64 b, .int .i64 c] 23)).alloc (.cells #[.int .i64 x, .int .i64 y, .int .i64 z] 23)) from (bel_alloc1 w _).alloc (by simp) _)
  go_enter Tryz.func9, Tryz.ntmps9
  go_upto_region 1 with fail
  generalize World.alloc (World.alloc w _) _ = W0 at A0 X0 B0 ⊢
  have x0 := X0.out.cell 0
  have x1 := X0.out.cell 1
  have x2 := X0.out.cell 2
  go_upto_region 3 with (first
    | (go_at_call 18; refine (rrword_is y true _ h1).mono ?_; rintro r u1 ⟨rfl, rfl⟩)
    | (go_at_call 18; refine (rrword_is z true _ h2).mono ?_; rintro r u1 ⟨rfl, rfl⟩))
  clear x0 x1 x2
  refine wp_region_any (by kernel_rfl) ?_
  change wpAny _ _ _ _ _ _ _ (World.drew _)
  generalize hWD : World.drew _ = W
  have B1 := Lib.hid (show Below w.heap.size w W by rw [← hWD]; exact B0.out.drew)
  have AX := Lib.hid (show Blk W w.heap.size #[.int .i64 a, .int .i64 b, .int .i64 c] 23 by rw [← hWD]; exact A0.out)
  have XX := Lib.hid (show Blk W (w.heap.size + 1) #[.int .i64 x, .int .i64 y, .int .i64 z] 23 by rw [← hWD]; exact X0.out)
  clear hWD A0 X0 B0
  have hCD : ∀ u, Ext W u → Ext W u := fun u hu => hu
  refine region_U (D := Ext W) (Ext W) [10] (Ext.refl W) ?_
  refine anyU_takeP (i := 0) (j := 10) (v := .int .i64 key) 17 [] rfl rfl (by kernel_rfl) (by kernel_rfl) (by kernel_rfl) (fun _ _ _ h => h) (by kernel_rfl) (Ext.stable _) hCD (yieldsU_val rfl (fun u hu => by go_simp)) ?_
  refine anyU_takeP (i := 1) (j := 10) (v := .agg #[.int .i64 a, .int .i64 b, .int .i64 c]) 18 [2] rfl rfl (by kernel_rfl) (by kernel_rfl) (by kernel_rfl) (fun _ _ _ h => h) (by kernel_rfl) (Ext.stable _) hCD (yieldsU_val rfl (fun u hu => by have q := AX.out.below hu AX.out.lt; have c0 := q.cell 0; have c1 := q.cell 1; have c2 := q.cell 2; go_simp)) ?_
  refine anyU_takeP (i := 3) (j := 10) (v := .pointer (some ⟨w.heap.size + 1, 1, none⟩)) 20 [9, 5, 4] rfl rfl (by kernel_rfl) (by kernel_rfl) (by kernel_rfl) (fun _ _ _ h => h) (by kernel_rfl) (Ext.stable _) hCD (yieldsU_val rfl (fun u hu => by go_simp)) ?_
  refine anyU_takeP (i := 4) (j := 10) (v := .int .i64 y) 21 [9, 5] rfl rfl (by kernel_rfl) (by kernel_rfl) (by kernel_rfl) (fun _ _ _ h => h) (by kernel_rfl) (Ext.stable _) hCD (yieldsU_val rfl (fun u hu => by have c := (XX.out.below hu XX.out.lt).cell 1; go_simp)) ?_
  refine anyU_takeP (i := 5) (j := 10) (v := .int .i64 e) 22 [9] rfl rfl (by kernel_rfl) (by kernel_rfl) (by kernel_rfl) (fun _ _ _ h => h) (by kernel_rfl) (Ext.stable _) hCD (yieldsU_val rfl (fun u hu => by go_simp)) ?_
  simp only [Act.put, List.setIfInBounds_toArray, List.set_cons_succ, List.set_cons_zero]
  refine anyU_takeP (i := 6) (j := 10) (v := .pointer (some ⟨w.heap.size + 1, 2, none⟩)) 23 [9, 8, 7] rfl rfl (by kernel_rfl) (by kernel_rfl) (by kernel_rfl) (fun _ _ _ h => h) (by kernel_rfl) (Ext.stable _) hCD (yieldsU_val rfl (fun u hu => by go_simp)) ?_
  refine anyU_takeP (i := 7) (j := 10) (v := .int .i64 z) 24 [9, 8] rfl rfl (by kernel_rfl) (by kernel_rfl) (by kernel_rfl) (fun _ _ _ h => h) (by kernel_rfl) (Ext.stable _) hCD (yieldsU_val rfl (fun u hu => by have c := (XX.out.below hu XX.out.lt).cell 2; go_simp)) ?_
  refine anyU_takeP (i := 8) (j := 10) (v := .int .i64 s) 25 [9] rfl rfl (by kernel_rfl) (by kernel_rfl) (by kernel_rfl) (fun _ _ _ h => h) (by kernel_rfl) (Ext.stable _) hCD (yieldsU_val rfl (fun u hu => by go_simp)) ?_
  refine anyU_takeP (i := 9) (j := 10) (v := .agg #[.int .i64 e, .int .i64 s]) 26 [] rfl rfl (by kernel_rfl) (by kernel_rfl) (by kernel_rfl) (fun _ _ _ h => h) (by kernel_rfl) (Ext.stable _) hCD (yieldsU_val rfl (fun u hu => by go_simp)) ?_
  simp only [Act.put, List.setIfInBounds_toArray, List.set_cons_succ, List.set_cons_zero]
  refine anyU_one 2 2 _ rfl rfl (by kernel_rfl) ?_
  intro u1 hu
  go_wp2_with (go_at_call 20; refine (rrtext_is a b c u1 hok).mono ?_; rintro e' u2 ⟨v2, rfl, o2, hb⟩; have O2 := Lib.hid o2; have B2 := Lib.hid (bel_trans hu hb); clear o2 hb)
  change ∃ C' : World → Prop, _ ∧ _ ∧ _ ∧ anyU _ _ _ _ _ _ 2 _ _ _
  obtain ⟨p, cp, hv2, hz2, _, _, _⟩ := own8_src O2.out
  subst v2
  have Z2 := Lib.hid hz2
  clear hz2 O2 hu
  refine anchorF (fun z => Ext W z ∧ SrcV z p (ltx a b c).length cp (ltx a b c)) (fun z hz => hz.1) ((Ext.stable W).and (fun y z h k => h.below k)) ⟨B2.out, Z2.out⟩ ?_
  (try simp only [Act.put])
  refine anyU_tail 10 [11] rfl rfl (by decide) (by kernel_rfl) ?_
  intro u3 hu3
  simp only [Act.put, List.filterMap_cons, List.filterMap_nil, List.getElem?_cons_succ, List.getElem?_cons_zero]
  have Z3 := Lib.hid hu3.2
  have B3 := Lib.hid (bel_trans B1.out hu3.1)
  clear hu3
  go_wp2_with (go_at_call 23; refine (rverify_is key e s p _ cp (ltx a b c) u3 (Lib.hid (ltx_ok hok.out)) (Lib.hid (.inl Z3.out)) v hv).mono ?_; rintro e' u4 ⟨rfl, hb⟩; have B4 := Lib.hid (bel_trans B3.out hb); clear hb)
  go_ret
  exact ⟨rfl, B4.out⟩
set_option maxRecDepth 100000 in
set_option maxHeartbeats 4000000 in
theorem rrMake_key0 (sec a b c l k x y : Int) (zs : List Int) (r0 r1 r2 : Int) (w : World) (hz : Hid (zs.length = 32)) (s0 : sec < 1) :
    Calls Tryz.prog 7 #[.int .i64 sec, .agg #[.int .i64 a, .int .i64 b, .int .i64 c], .agg (rtv l k x y zs).toArray, .agg #[.int .i64 r0, .int .i64 r1, .int .i64 r2]] w fun e w' => e = .returned (.tuple #[sealedV 0 0 0 0 0 0, .int .i64 110]) ∧ Below w.heap.size w w' := by
  have A0 := Lib.hid (show Blk (World.alloc (World.alloc (World.alloc (World.alloc w (.cells #[.int .i64 a, .int .i64 b, .int .i64 c] 23)) (.cells (rtv l k x y zs).toArray 29)) (.cells #[.int .i64 r0, .int .i64 r1, .int .i64 r2] 22)) (.cells #[.int .i64 0, .int .i64 0, .int .i64 0, .int .i64 0, .int .i64 0, .int .i64 0] 32)) (w.heap.size) #[.int .i64 a, .int .i64 b, .int .i64 c] 23 by
    have h := Blk.new w #[.int .i64 a, .int .i64 b, .int .i64 c] 23
    (try simp only [World.size_alloc] at h)
    exact (((h.alloc _).alloc _).alloc _))
  have X0 := Lib.hid (show RBlk (World.alloc (World.alloc (World.alloc (World.alloc w (.cells #[.int .i64 a, .int .i64 b, .int .i64 c] 23)) (.cells (rtv l k x y zs).toArray 29)) (.cells #[.int .i64 r0, .int .i64 r1, .int .i64 r2] 22)) (.cells #[.int .i64 0, .int .i64 0, .int .i64 0, .int .i64 0, .int .i64 0, .int .i64 0] 32)) (w.heap.size + 1) l k x y zs by
    have h := RBlk.box (World.alloc w (.cells #[.int .i64 a, .int .i64 b, .int .i64 c] 23)) l k x y hz.out
    (try simp only [World.size_alloc] at h)
    exact ((h.alloc _).alloc _))
  have R0 := Lib.hid (show Blk (World.alloc (World.alloc (World.alloc (World.alloc w (.cells #[.int .i64 a, .int .i64 b, .int .i64 c] 23)) (.cells (rtv l k x y zs).toArray 29)) (.cells #[.int .i64 r0, .int .i64 r1, .int .i64 r2] 22)) (.cells #[.int .i64 0, .int .i64 0, .int .i64 0, .int .i64 0, .int .i64 0, .int .i64 0] 32)) (w.heap.size + 1 + 1) #[.int .i64 r0, .int .i64 r1, .int .i64 r2] 22 by
    have h := Blk.new (World.alloc (World.alloc w (.cells #[.int .i64 a, .int .i64 b, .int .i64 c] 23)) (.cells (rtv l k x y zs).toArray 29)) #[.int .i64 r0, .int .i64 r1, .int .i64 r2] 22
    (try simp only [World.size_alloc] at h)
    exact (h.alloc _))
  have Z0 := Lib.hid (show Blk (World.alloc (World.alloc (World.alloc (World.alloc w (.cells #[.int .i64 a, .int .i64 b, .int .i64 c] 23)) (.cells (rtv l k x y zs).toArray 29)) (.cells #[.int .i64 r0, .int .i64 r1, .int .i64 r2] 22)) (.cells #[.int .i64 0, .int .i64 0, .int .i64 0, .int .i64 0, .int .i64 0, .int .i64 0] 32)) (w.heap.size + 1 + 1 + 1) #[.int .i64 0, .int .i64 0, .int .i64 0, .int .i64 0, .int .i64 0, .int .i64 0] 32 by
    have h := Blk.new (World.alloc (World.alloc (World.alloc w (.cells #[.int .i64 a, .int .i64 b, .int .i64 c] 23)) (.cells (rtv l k x y zs).toArray 29)) (.cells #[.int .i64 r0, .int .i64 r1, .int .i64 r2] 22)) #[.int .i64 0, .int .i64 0, .int .i64 0, .int .i64 0, .int .i64 0, .int .i64 0] 32
    (try simp only [World.size_alloc] at h)
    exact h)
  have B0 := Lib.hid (show Below w.heap.size w (World.alloc (World.alloc (World.alloc (World.alloc w (.cells #[.int .i64 a, .int .i64 b, .int .i64 c] 23)) (.cells (rtv l k x y zs).toArray 29)) (.cells #[.int .i64 r0, .int .i64 r1, .int .i64 r2] 22)) (.cells #[.int .i64 0, .int .i64 0, .int .i64 0, .int .i64 0, .int .i64 0, .int .i64 0] 32)) from (((bel_alloc1 w _).alloc (by simp) _).alloc (by simp; omega) _).alloc (by simp; omega) _)
  go_enter Tryz.func7, Tryz.ntmps7
  go_upto_region 1 with fail
  generalize World.alloc (World.alloc (World.alloc (World.alloc w _) _) _) _ = W0 at A0 X0 R0 Z0 B0 ⊢
  have z0 := Z0.out.cell 0
  have y0 := Z0.out.frozen 0
  have z1 := Z0.out.cell 1
  have y1 := Z0.out.frozen 1
  have z2 := Z0.out.cell 2
  have y2 := Z0.out.frozen 2
  have z3 := Z0.out.cell 3
  have y3 := Z0.out.frozen 3
  have z4 := Z0.out.cell 4
  have y4 := Z0.out.frozen 4
  have z5 := Z0.out.cell 5
  have y5 := Z0.out.frozen 5
  go_wp2_with fail
  have hJ : Blk ((((((W0.setCell ⟨w.heap.size + 1 + 1 + 1, 0, none⟩ (.int .i64 0)).setCell ⟨w.heap.size + 1 + 1 + 1, 1, none⟩ (.int .i64 0)).setCell ⟨w.heap.size + 1 + 1 + 1, 2, none⟩ (.int .i64 0)).setCell ⟨w.heap.size + 1 + 1 + 1, 3, none⟩ (.int .i64 0)).setCell ⟨w.heap.size + 1 + 1 + 1, 4, none⟩ (.int .i64 0)).setCell ⟨w.heap.size + 1 + 1 + 1, 5, none⟩ (.int .i64 0)) (w.heap.size + 1 + 1 + 1) #[.int .i64 0, .int .i64 0, .int .i64 0, .int .i64 0, .int .i64 0, .int .i64 0] 32 := six_stored Z0.out _ _ _ _ _ _
  have hB : Below w.heap.size w ((((((W0.setCell ⟨w.heap.size + 1 + 1 + 1, 0, none⟩ (.int .i64 0)).setCell ⟨w.heap.size + 1 + 1 + 1, 1, none⟩ (.int .i64 0)).setCell ⟨w.heap.size + 1 + 1 + 1, 2, none⟩ (.int .i64 0)).setCell ⟨w.heap.size + 1 + 1 + 1, 3, none⟩ (.int .i64 0)).setCell ⟨w.heap.size + 1 + 1 + 1, 4, none⟩ (.int .i64 0)).setCell ⟨w.heap.size + 1 + 1 + 1, 5, none⟩ (.int .i64 0)) := six_below B0.out (by omega) _ _ _ _ _ _
  generalize ((((((W0.setCell ⟨w.heap.size + 1 + 1 + 1, 0, none⟩ (.int .i64 0)).setCell ⟨w.heap.size + 1 + 1 + 1, 1, none⟩ (.int .i64 0)).setCell ⟨w.heap.size + 1 + 1 + 1, 2, none⟩ (.int .i64 0)).setCell ⟨w.heap.size + 1 + 1 + 1, 3, none⟩ (.int .i64 0)).setCell ⟨w.heap.size + 1 + 1 + 1, 4, none⟩ (.int .i64 0)).setCell ⟨w.heap.size + 1 + 1 + 1, 5, none⟩ (.int .i64 0)) = W9 at hJ hB ⊢
  obtain ⟨g0, g1, g2, g3, g4, g5⟩ := res6_ret hJ
  refine bodyPost_ret (v := .tuple #[sealedV 0 0 0 0 0 0, .int .i64 110]) (by simp [results, Tryz.results7, go_sem, g0, g1, g2, g3, g4, g5]) rfl ⟨rfl, hB⟩
set_option maxRecDepth 100000 in
set_option maxHeartbeats 4000000 in
theorem rrMake_key1 (sec a b c l k x y : Int) (zs : List Int) (r0 r1 r2 : Int) (w : World) (hz : Hid (zs.length = 32)) (s0 : ¬ sec < 1) (s1 : 1073741789 ≤ sec) :
    Calls Tryz.prog 7 #[.int .i64 sec, .agg #[.int .i64 a, .int .i64 b, .int .i64 c], .agg (rtv l k x y zs).toArray, .agg #[.int .i64 r0, .int .i64 r1, .int .i64 r2]] w fun e w' => e = .returned (.tuple #[sealedV 0 0 0 0 0 0, .int .i64 110]) ∧ Below w.heap.size w w' := by
  have A0 := Lib.hid (show Blk (World.alloc (World.alloc (World.alloc (World.alloc w (.cells #[.int .i64 a, .int .i64 b, .int .i64 c] 23)) (.cells (rtv l k x y zs).toArray 29)) (.cells #[.int .i64 r0, .int .i64 r1, .int .i64 r2] 22)) (.cells #[.int .i64 0, .int .i64 0, .int .i64 0, .int .i64 0, .int .i64 0, .int .i64 0] 32)) (w.heap.size) #[.int .i64 a, .int .i64 b, .int .i64 c] 23 by
    have h := Blk.new w #[.int .i64 a, .int .i64 b, .int .i64 c] 23
    (try simp only [World.size_alloc] at h)
    exact (((h.alloc _).alloc _).alloc _))
  have X0 := Lib.hid (show RBlk (World.alloc (World.alloc (World.alloc (World.alloc w (.cells #[.int .i64 a, .int .i64 b, .int .i64 c] 23)) (.cells (rtv l k x y zs).toArray 29)) (.cells #[.int .i64 r0, .int .i64 r1, .int .i64 r2] 22)) (.cells #[.int .i64 0, .int .i64 0, .int .i64 0, .int .i64 0, .int .i64 0, .int .i64 0] 32)) (w.heap.size + 1) l k x y zs by
    have h := RBlk.box (World.alloc w (.cells #[.int .i64 a, .int .i64 b, .int .i64 c] 23)) l k x y hz.out
    (try simp only [World.size_alloc] at h)
    exact ((h.alloc _).alloc _))
  have R0 := Lib.hid (show Blk (World.alloc (World.alloc (World.alloc (World.alloc w (.cells #[.int .i64 a, .int .i64 b, .int .i64 c] 23)) (.cells (rtv l k x y zs).toArray 29)) (.cells #[.int .i64 r0, .int .i64 r1, .int .i64 r2] 22)) (.cells #[.int .i64 0, .int .i64 0, .int .i64 0, .int .i64 0, .int .i64 0, .int .i64 0] 32)) (w.heap.size + 1 + 1) #[.int .i64 r0, .int .i64 r1, .int .i64 r2] 22 by
    have h := Blk.new (World.alloc (World.alloc w (.cells #[.int .i64 a, .int .i64 b, .int .i64 c] 23)) (.cells (rtv l k x y zs).toArray 29)) #[.int .i64 r0, .int .i64 r1, .int .i64 r2] 22
    (try simp only [World.size_alloc] at h)
    exact (h.alloc _))
  have Z0 := Lib.hid (show Blk (World.alloc (World.alloc (World.alloc (World.alloc w (.cells #[.int .i64 a, .int .i64 b, .int .i64 c] 23)) (.cells (rtv l k x y zs).toArray 29)) (.cells #[.int .i64 r0, .int .i64 r1, .int .i64 r2] 22)) (.cells #[.int .i64 0, .int .i64 0, .int .i64 0, .int .i64 0, .int .i64 0, .int .i64 0] 32)) (w.heap.size + 1 + 1 + 1) #[.int .i64 0, .int .i64 0, .int .i64 0, .int .i64 0, .int .i64 0, .int .i64 0] 32 by
    have h := Blk.new (World.alloc (World.alloc (World.alloc w (.cells #[.int .i64 a, .int .i64 b, .int .i64 c] 23)) (.cells (rtv l k x y zs).toArray 29)) (.cells #[.int .i64 r0, .int .i64 r1, .int .i64 r2] 22)) #[.int .i64 0, .int .i64 0, .int .i64 0, .int .i64 0, .int .i64 0, .int .i64 0] 32
    (try simp only [World.size_alloc] at h)
    exact h)
  have B0 := Lib.hid (show Below w.heap.size w (World.alloc (World.alloc (World.alloc (World.alloc w (.cells #[.int .i64 a, .int .i64 b, .int .i64 c] 23)) (.cells (rtv l k x y zs).toArray 29)) (.cells #[.int .i64 r0, .int .i64 r1, .int .i64 r2] 22)) (.cells #[.int .i64 0, .int .i64 0, .int .i64 0, .int .i64 0, .int .i64 0, .int .i64 0] 32)) from (((bel_alloc1 w _).alloc (by simp) _).alloc (by simp; omega) _).alloc (by simp; omega) _)
  go_enter Tryz.func7, Tryz.ntmps7
  go_upto_region 1 with fail
  generalize World.alloc (World.alloc (World.alloc (World.alloc w _) _) _) _ = W0 at A0 X0 R0 Z0 B0 ⊢
  have z0 := Z0.out.cell 0
  have y0 := Z0.out.frozen 0
  have z1 := Z0.out.cell 1
  have y1 := Z0.out.frozen 1
  have z2 := Z0.out.cell 2
  have y2 := Z0.out.frozen 2
  have z3 := Z0.out.cell 3
  have y3 := Z0.out.frozen 3
  have z4 := Z0.out.cell 4
  have y4 := Z0.out.frozen 4
  have z5 := Z0.out.cell 5
  have y5 := Z0.out.frozen 5
  go_wp2_with fail
  have hJ : Blk ((((((W0.setCell ⟨w.heap.size + 1 + 1 + 1, 0, none⟩ (.int .i64 0)).setCell ⟨w.heap.size + 1 + 1 + 1, 1, none⟩ (.int .i64 0)).setCell ⟨w.heap.size + 1 + 1 + 1, 2, none⟩ (.int .i64 0)).setCell ⟨w.heap.size + 1 + 1 + 1, 3, none⟩ (.int .i64 0)).setCell ⟨w.heap.size + 1 + 1 + 1, 4, none⟩ (.int .i64 0)).setCell ⟨w.heap.size + 1 + 1 + 1, 5, none⟩ (.int .i64 0)) (w.heap.size + 1 + 1 + 1) #[.int .i64 0, .int .i64 0, .int .i64 0, .int .i64 0, .int .i64 0, .int .i64 0] 32 := six_stored Z0.out _ _ _ _ _ _
  have hB : Below w.heap.size w ((((((W0.setCell ⟨w.heap.size + 1 + 1 + 1, 0, none⟩ (.int .i64 0)).setCell ⟨w.heap.size + 1 + 1 + 1, 1, none⟩ (.int .i64 0)).setCell ⟨w.heap.size + 1 + 1 + 1, 2, none⟩ (.int .i64 0)).setCell ⟨w.heap.size + 1 + 1 + 1, 3, none⟩ (.int .i64 0)).setCell ⟨w.heap.size + 1 + 1 + 1, 4, none⟩ (.int .i64 0)).setCell ⟨w.heap.size + 1 + 1 + 1, 5, none⟩ (.int .i64 0)) := six_below B0.out (by omega) _ _ _ _ _ _
  generalize ((((((W0.setCell ⟨w.heap.size + 1 + 1 + 1, 0, none⟩ (.int .i64 0)).setCell ⟨w.heap.size + 1 + 1 + 1, 1, none⟩ (.int .i64 0)).setCell ⟨w.heap.size + 1 + 1 + 1, 2, none⟩ (.int .i64 0)).setCell ⟨w.heap.size + 1 + 1 + 1, 3, none⟩ (.int .i64 0)).setCell ⟨w.heap.size + 1 + 1 + 1, 4, none⟩ (.int .i64 0)).setCell ⟨w.heap.size + 1 + 1 + 1, 5, none⟩ (.int .i64 0)) = W9 at hJ hB ⊢
  obtain ⟨g0, g1, g2, g3, g4, g5⟩ := res6_ret hJ
  refine bodyPost_ret (v := .tuple #[sealedV 0 0 0 0 0 0, .int .i64 110]) (by simp [results, Tryz.results7, go_sem, g0, g1, g2, g3, g4, g5]) rfl ⟨rfl, hB⟩
set_option maxRecDepth 100000 in
set_option maxHeartbeats 4000000 in
theorem rrMake_rec0 (sec a b c l k x y : Int) (zs : List Int) (r0 r1 r2 : Int) (w : World) (hz : Hid (zs.length = 32)) (s0 : ¬ sec < 1) (s1 : ¬ 1073741789 ≤ sec) (ha : Hid (wordB a = false)) :
    Calls Tryz.prog 7 #[.int .i64 sec, .agg #[.int .i64 a, .int .i64 b, .int .i64 c], .agg (rtv l k x y zs).toArray, .agg #[.int .i64 r0, .int .i64 r1, .int .i64 r2]] w fun e w' => e = .returned (.tuple #[sealedV 0 0 0 0 0 0, .int .i64 430]) ∧ Below w.heap.size w w' := by
  have A0 := Lib.hid (show Blk (World.alloc (World.alloc (World.alloc (World.alloc w (.cells #[.int .i64 a, .int .i64 b, .int .i64 c] 23)) (.cells (rtv l k x y zs).toArray 29)) (.cells #[.int .i64 r0, .int .i64 r1, .int .i64 r2] 22)) (.cells #[.int .i64 0, .int .i64 0, .int .i64 0, .int .i64 0, .int .i64 0, .int .i64 0] 32)) (w.heap.size) #[.int .i64 a, .int .i64 b, .int .i64 c] 23 by
    have h := Blk.new w #[.int .i64 a, .int .i64 b, .int .i64 c] 23
    (try simp only [World.size_alloc] at h)
    exact (((h.alloc _).alloc _).alloc _))
  have X0 := Lib.hid (show RBlk (World.alloc (World.alloc (World.alloc (World.alloc w (.cells #[.int .i64 a, .int .i64 b, .int .i64 c] 23)) (.cells (rtv l k x y zs).toArray 29)) (.cells #[.int .i64 r0, .int .i64 r1, .int .i64 r2] 22)) (.cells #[.int .i64 0, .int .i64 0, .int .i64 0, .int .i64 0, .int .i64 0, .int .i64 0] 32)) (w.heap.size + 1) l k x y zs by
    have h := RBlk.box (World.alloc w (.cells #[.int .i64 a, .int .i64 b, .int .i64 c] 23)) l k x y hz.out
    (try simp only [World.size_alloc] at h)
    exact ((h.alloc _).alloc _))
  have R0 := Lib.hid (show Blk (World.alloc (World.alloc (World.alloc (World.alloc w (.cells #[.int .i64 a, .int .i64 b, .int .i64 c] 23)) (.cells (rtv l k x y zs).toArray 29)) (.cells #[.int .i64 r0, .int .i64 r1, .int .i64 r2] 22)) (.cells #[.int .i64 0, .int .i64 0, .int .i64 0, .int .i64 0, .int .i64 0, .int .i64 0] 32)) (w.heap.size + 1 + 1) #[.int .i64 r0, .int .i64 r1, .int .i64 r2] 22 by
    have h := Blk.new (World.alloc (World.alloc w (.cells #[.int .i64 a, .int .i64 b, .int .i64 c] 23)) (.cells (rtv l k x y zs).toArray 29)) #[.int .i64 r0, .int .i64 r1, .int .i64 r2] 22
    (try simp only [World.size_alloc] at h)
    exact (h.alloc _))
  have Z0 := Lib.hid (show Blk (World.alloc (World.alloc (World.alloc (World.alloc w (.cells #[.int .i64 a, .int .i64 b, .int .i64 c] 23)) (.cells (rtv l k x y zs).toArray 29)) (.cells #[.int .i64 r0, .int .i64 r1, .int .i64 r2] 22)) (.cells #[.int .i64 0, .int .i64 0, .int .i64 0, .int .i64 0, .int .i64 0, .int .i64 0] 32)) (w.heap.size + 1 + 1 + 1) #[.int .i64 0, .int .i64 0, .int .i64 0, .int .i64 0, .int .i64 0, .int .i64 0] 32 by
    have h := Blk.new (World.alloc (World.alloc (World.alloc w (.cells #[.int .i64 a, .int .i64 b, .int .i64 c] 23)) (.cells (rtv l k x y zs).toArray 29)) (.cells #[.int .i64 r0, .int .i64 r1, .int .i64 r2] 22)) #[.int .i64 0, .int .i64 0, .int .i64 0, .int .i64 0, .int .i64 0, .int .i64 0] 32
    (try simp only [World.size_alloc] at h)
    exact h)
  have B0 := Lib.hid (show Below w.heap.size w (World.alloc (World.alloc (World.alloc (World.alloc w (.cells #[.int .i64 a, .int .i64 b, .int .i64 c] 23)) (.cells (rtv l k x y zs).toArray 29)) (.cells #[.int .i64 r0, .int .i64 r1, .int .i64 r2] 22)) (.cells #[.int .i64 0, .int .i64 0, .int .i64 0, .int .i64 0, .int .i64 0, .int .i64 0] 32)) from (((bel_alloc1 w _).alloc (by simp) _).alloc (by simp; omega) _).alloc (by simp; omega) _)
  go_enter Tryz.func7, Tryz.ntmps7
  go_upto_region 1 with fail
  generalize World.alloc (World.alloc (World.alloc (World.alloc w _) _) _) _ = W0 at A0 X0 R0 Z0 B0 ⊢
  have a0 := A0.out.cell 0
  have a1 := A0.out.cell 1
  have a2 := A0.out.cell 2
  have z0 := Z0.out.cell 0
  have y0 := Z0.out.frozen 0
  have z1 := Z0.out.cell 1
  have y1 := Z0.out.frozen 1
  have z2 := Z0.out.cell 2
  have y2 := Z0.out.frozen 2
  have z3 := Z0.out.cell 3
  have y3 := Z0.out.frozen 3
  have z4 := Z0.out.cell 4
  have y4 := Z0.out.frozen 4
  have z5 := Z0.out.cell 5
  have y5 := Z0.out.frozen 5
  go_wp2_with (first
    | (go_at_call 18; refine (rrword_is a false _ ha).mono ?_; rintro r u1 ⟨rfl, rfl⟩))
  have hJ : Blk ((((((W0.setCell ⟨w.heap.size + 1 + 1 + 1, 0, none⟩ (.int .i64 0)).setCell ⟨w.heap.size + 1 + 1 + 1, 1, none⟩ (.int .i64 0)).setCell ⟨w.heap.size + 1 + 1 + 1, 2, none⟩ (.int .i64 0)).setCell ⟨w.heap.size + 1 + 1 + 1, 3, none⟩ (.int .i64 0)).setCell ⟨w.heap.size + 1 + 1 + 1, 4, none⟩ (.int .i64 0)).setCell ⟨w.heap.size + 1 + 1 + 1, 5, none⟩ (.int .i64 0)) (w.heap.size + 1 + 1 + 1) #[.int .i64 0, .int .i64 0, .int .i64 0, .int .i64 0, .int .i64 0, .int .i64 0] 32 := six_stored Z0.out _ _ _ _ _ _
  have hB : Below w.heap.size w ((((((W0.setCell ⟨w.heap.size + 1 + 1 + 1, 0, none⟩ (.int .i64 0)).setCell ⟨w.heap.size + 1 + 1 + 1, 1, none⟩ (.int .i64 0)).setCell ⟨w.heap.size + 1 + 1 + 1, 2, none⟩ (.int .i64 0)).setCell ⟨w.heap.size + 1 + 1 + 1, 3, none⟩ (.int .i64 0)).setCell ⟨w.heap.size + 1 + 1 + 1, 4, none⟩ (.int .i64 0)).setCell ⟨w.heap.size + 1 + 1 + 1, 5, none⟩ (.int .i64 0)) := six_below B0.out (by omega) _ _ _ _ _ _
  generalize ((((((W0.setCell ⟨w.heap.size + 1 + 1 + 1, 0, none⟩ (.int .i64 0)).setCell ⟨w.heap.size + 1 + 1 + 1, 1, none⟩ (.int .i64 0)).setCell ⟨w.heap.size + 1 + 1 + 1, 2, none⟩ (.int .i64 0)).setCell ⟨w.heap.size + 1 + 1 + 1, 3, none⟩ (.int .i64 0)).setCell ⟨w.heap.size + 1 + 1 + 1, 4, none⟩ (.int .i64 0)).setCell ⟨w.heap.size + 1 + 1 + 1, 5, none⟩ (.int .i64 0)) = W9 at hJ hB ⊢
  obtain ⟨g0, g1, g2, g3, g4, g5⟩ := res6_ret hJ
  refine bodyPost_ret (v := .tuple #[sealedV 0 0 0 0 0 0, .int .i64 430]) (by simp [results, Tryz.results7, go_sem, g0, g1, g2, g3, g4, g5]) rfl ⟨rfl, hB⟩
set_option maxRecDepth 100000 in
set_option maxHeartbeats 4000000 in
theorem rrMake_rec1 (sec a b c l k x y : Int) (zs : List Int) (r0 r1 r2 : Int) (w : World) (hz : Hid (zs.length = 32)) (s0 : ¬ sec < 1) (s1 : ¬ 1073741789 ≤ sec) (ha : Hid (wordB a = true)) (hb : Hid (wordB b = false)) :
    Calls Tryz.prog 7 #[.int .i64 sec, .agg #[.int .i64 a, .int .i64 b, .int .i64 c], .agg (rtv l k x y zs).toArray, .agg #[.int .i64 r0, .int .i64 r1, .int .i64 r2]] w fun e w' => e = .returned (.tuple #[sealedV 0 0 0 0 0 0, .int .i64 430]) ∧ Below w.heap.size w w' := by
  have A0 := Lib.hid (show Blk (World.alloc (World.alloc (World.alloc (World.alloc w (.cells #[.int .i64 a, .int .i64 b, .int .i64 c] 23)) (.cells (rtv l k x y zs).toArray 29)) (.cells #[.int .i64 r0, .int .i64 r1, .int .i64 r2] 22)) (.cells #[.int .i64 0, .int .i64 0, .int .i64 0, .int .i64 0, .int .i64 0, .int .i64 0] 32)) (w.heap.size) #[.int .i64 a, .int .i64 b, .int .i64 c] 23 by
    have h := Blk.new w #[.int .i64 a, .int .i64 b, .int .i64 c] 23
    (try simp only [World.size_alloc] at h)
    exact (((h.alloc _).alloc _).alloc _))
  have X0 := Lib.hid (show RBlk (World.alloc (World.alloc (World.alloc (World.alloc w (.cells #[.int .i64 a, .int .i64 b, .int .i64 c] 23)) (.cells (rtv l k x y zs).toArray 29)) (.cells #[.int .i64 r0, .int .i64 r1, .int .i64 r2] 22)) (.cells #[.int .i64 0, .int .i64 0, .int .i64 0, .int .i64 0, .int .i64 0, .int .i64 0] 32)) (w.heap.size + 1) l k x y zs by
    have h := RBlk.box (World.alloc w (.cells #[.int .i64 a, .int .i64 b, .int .i64 c] 23)) l k x y hz.out
    (try simp only [World.size_alloc] at h)
    exact ((h.alloc _).alloc _))
  have R0 := Lib.hid (show Blk (World.alloc (World.alloc (World.alloc (World.alloc w (.cells #[.int .i64 a, .int .i64 b, .int .i64 c] 23)) (.cells (rtv l k x y zs).toArray 29)) (.cells #[.int .i64 r0, .int .i64 r1, .int .i64 r2] 22)) (.cells #[.int .i64 0, .int .i64 0, .int .i64 0, .int .i64 0, .int .i64 0, .int .i64 0] 32)) (w.heap.size + 1 + 1) #[.int .i64 r0, .int .i64 r1, .int .i64 r2] 22 by
    have h := Blk.new (World.alloc (World.alloc w (.cells #[.int .i64 a, .int .i64 b, .int .i64 c] 23)) (.cells (rtv l k x y zs).toArray 29)) #[.int .i64 r0, .int .i64 r1, .int .i64 r2] 22
    (try simp only [World.size_alloc] at h)
    exact (h.alloc _))
  have Z0 := Lib.hid (show Blk (World.alloc (World.alloc (World.alloc (World.alloc w (.cells #[.int .i64 a, .int .i64 b, .int .i64 c] 23)) (.cells (rtv l k x y zs).toArray 29)) (.cells #[.int .i64 r0, .int .i64 r1, .int .i64 r2] 22)) (.cells #[.int .i64 0, .int .i64 0, .int .i64 0, .int .i64 0, .int .i64 0, .int .i64 0] 32)) (w.heap.size + 1 + 1 + 1) #[.int .i64 0, .int .i64 0, .int .i64 0, .int .i64 0, .int .i64 0, .int .i64 0] 32 by
    have h := Blk.new (World.alloc (World.alloc (World.alloc w (.cells #[.int .i64 a, .int .i64 b, .int .i64 c] 23)) (.cells (rtv l k x y zs).toArray 29)) (.cells #[.int .i64 r0, .int .i64 r1, .int .i64 r2] 22)) #[.int .i64 0, .int .i64 0, .int .i64 0, .int .i64 0, .int .i64 0, .int .i64 0] 32
    (try simp only [World.size_alloc] at h)
    exact h)
  have B0 := Lib.hid (show Below w.heap.size w (World.alloc (World.alloc (World.alloc (World.alloc w (.cells #[.int .i64 a, .int .i64 b, .int .i64 c] 23)) (.cells (rtv l k x y zs).toArray 29)) (.cells #[.int .i64 r0, .int .i64 r1, .int .i64 r2] 22)) (.cells #[.int .i64 0, .int .i64 0, .int .i64 0, .int .i64 0, .int .i64 0, .int .i64 0] 32)) from (((bel_alloc1 w _).alloc (by simp) _).alloc (by simp; omega) _).alloc (by simp; omega) _)
  go_enter Tryz.func7, Tryz.ntmps7
  go_upto_region 1 with fail
  generalize World.alloc (World.alloc (World.alloc (World.alloc w _) _) _) _ = W0 at A0 X0 R0 Z0 B0 ⊢
  have a0 := A0.out.cell 0
  have a1 := A0.out.cell 1
  have a2 := A0.out.cell 2
  have z0 := Z0.out.cell 0
  have y0 := Z0.out.frozen 0
  have z1 := Z0.out.cell 1
  have y1 := Z0.out.frozen 1
  have z2 := Z0.out.cell 2
  have y2 := Z0.out.frozen 2
  have z3 := Z0.out.cell 3
  have y3 := Z0.out.frozen 3
  have z4 := Z0.out.cell 4
  have y4 := Z0.out.frozen 4
  have z5 := Z0.out.cell 5
  have y5 := Z0.out.frozen 5
  go_wp2_with (first
    | (go_at_call 18; refine (rrword_is a true _ ha).mono ?_; rintro r u1 ⟨rfl, rfl⟩)
    | (go_at_call 18; refine (rrword_is b false _ hb).mono ?_; rintro r u1 ⟨rfl, rfl⟩))
  have hJ : Blk ((((((W0.setCell ⟨w.heap.size + 1 + 1 + 1, 0, none⟩ (.int .i64 0)).setCell ⟨w.heap.size + 1 + 1 + 1, 1, none⟩ (.int .i64 0)).setCell ⟨w.heap.size + 1 + 1 + 1, 2, none⟩ (.int .i64 0)).setCell ⟨w.heap.size + 1 + 1 + 1, 3, none⟩ (.int .i64 0)).setCell ⟨w.heap.size + 1 + 1 + 1, 4, none⟩ (.int .i64 0)).setCell ⟨w.heap.size + 1 + 1 + 1, 5, none⟩ (.int .i64 0)) (w.heap.size + 1 + 1 + 1) #[.int .i64 0, .int .i64 0, .int .i64 0, .int .i64 0, .int .i64 0, .int .i64 0] 32 := six_stored Z0.out _ _ _ _ _ _
  have hB : Below w.heap.size w ((((((W0.setCell ⟨w.heap.size + 1 + 1 + 1, 0, none⟩ (.int .i64 0)).setCell ⟨w.heap.size + 1 + 1 + 1, 1, none⟩ (.int .i64 0)).setCell ⟨w.heap.size + 1 + 1 + 1, 2, none⟩ (.int .i64 0)).setCell ⟨w.heap.size + 1 + 1 + 1, 3, none⟩ (.int .i64 0)).setCell ⟨w.heap.size + 1 + 1 + 1, 4, none⟩ (.int .i64 0)).setCell ⟨w.heap.size + 1 + 1 + 1, 5, none⟩ (.int .i64 0)) := six_below B0.out (by omega) _ _ _ _ _ _
  generalize ((((((W0.setCell ⟨w.heap.size + 1 + 1 + 1, 0, none⟩ (.int .i64 0)).setCell ⟨w.heap.size + 1 + 1 + 1, 1, none⟩ (.int .i64 0)).setCell ⟨w.heap.size + 1 + 1 + 1, 2, none⟩ (.int .i64 0)).setCell ⟨w.heap.size + 1 + 1 + 1, 3, none⟩ (.int .i64 0)).setCell ⟨w.heap.size + 1 + 1 + 1, 4, none⟩ (.int .i64 0)).setCell ⟨w.heap.size + 1 + 1 + 1, 5, none⟩ (.int .i64 0)) = W9 at hJ hB ⊢
  obtain ⟨g0, g1, g2, g3, g4, g5⟩ := res6_ret hJ
  refine bodyPost_ret (v := .tuple #[sealedV 0 0 0 0 0 0, .int .i64 430]) (by simp [results, Tryz.results7, go_sem, g0, g1, g2, g3, g4, g5]) rfl ⟨rfl, hB⟩
set_option maxRecDepth 100000 in
set_option maxHeartbeats 4000000 in
theorem rrMake_rec2 (sec a b c l k x y : Int) (zs : List Int) (r0 r1 r2 : Int) (w : World) (hz : Hid (zs.length = 32)) (s0 : ¬ sec < 1) (s1 : ¬ 1073741789 ≤ sec) (ha : Hid (wordB a = true)) (hb : Hid (wordB b = true)) (hc : Hid (wordB c = false)) :
    Calls Tryz.prog 7 #[.int .i64 sec, .agg #[.int .i64 a, .int .i64 b, .int .i64 c], .agg (rtv l k x y zs).toArray, .agg #[.int .i64 r0, .int .i64 r1, .int .i64 r2]] w fun e w' => e = .returned (.tuple #[sealedV 0 0 0 0 0 0, .int .i64 430]) ∧ Below w.heap.size w w' := by
  have A0 := Lib.hid (show Blk (World.alloc (World.alloc (World.alloc (World.alloc w (.cells #[.int .i64 a, .int .i64 b, .int .i64 c] 23)) (.cells (rtv l k x y zs).toArray 29)) (.cells #[.int .i64 r0, .int .i64 r1, .int .i64 r2] 22)) (.cells #[.int .i64 0, .int .i64 0, .int .i64 0, .int .i64 0, .int .i64 0, .int .i64 0] 32)) (w.heap.size) #[.int .i64 a, .int .i64 b, .int .i64 c] 23 by
    have h := Blk.new w #[.int .i64 a, .int .i64 b, .int .i64 c] 23
    (try simp only [World.size_alloc] at h)
    exact (((h.alloc _).alloc _).alloc _))
  have X0 := Lib.hid (show RBlk (World.alloc (World.alloc (World.alloc (World.alloc w (.cells #[.int .i64 a, .int .i64 b, .int .i64 c] 23)) (.cells (rtv l k x y zs).toArray 29)) (.cells #[.int .i64 r0, .int .i64 r1, .int .i64 r2] 22)) (.cells #[.int .i64 0, .int .i64 0, .int .i64 0, .int .i64 0, .int .i64 0, .int .i64 0] 32)) (w.heap.size + 1) l k x y zs by
    have h := RBlk.box (World.alloc w (.cells #[.int .i64 a, .int .i64 b, .int .i64 c] 23)) l k x y hz.out
    (try simp only [World.size_alloc] at h)
    exact ((h.alloc _).alloc _))
  have R0 := Lib.hid (show Blk (World.alloc (World.alloc (World.alloc (World.alloc w (.cells #[.int .i64 a, .int .i64 b, .int .i64 c] 23)) (.cells (rtv l k x y zs).toArray 29)) (.cells #[.int .i64 r0, .int .i64 r1, .int .i64 r2] 22)) (.cells #[.int .i64 0, .int .i64 0, .int .i64 0, .int .i64 0, .int .i64 0, .int .i64 0] 32)) (w.heap.size + 1 + 1) #[.int .i64 r0, .int .i64 r1, .int .i64 r2] 22 by
    have h := Blk.new (World.alloc (World.alloc w (.cells #[.int .i64 a, .int .i64 b, .int .i64 c] 23)) (.cells (rtv l k x y zs).toArray 29)) #[.int .i64 r0, .int .i64 r1, .int .i64 r2] 22
    (try simp only [World.size_alloc] at h)
    exact (h.alloc _))
  have Z0 := Lib.hid (show Blk (World.alloc (World.alloc (World.alloc (World.alloc w (.cells #[.int .i64 a, .int .i64 b, .int .i64 c] 23)) (.cells (rtv l k x y zs).toArray 29)) (.cells #[.int .i64 r0, .int .i64 r1, .int .i64 r2] 22)) (.cells #[.int .i64 0, .int .i64 0, .int .i64 0, .int .i64 0, .int .i64 0, .int .i64 0] 32)) (w.heap.size + 1 + 1 + 1) #[.int .i64 0, .int .i64 0, .int .i64 0, .int .i64 0, .int .i64 0, .int .i64 0] 32 by
    have h := Blk.new (World.alloc (World.alloc (World.alloc w (.cells #[.int .i64 a, .int .i64 b, .int .i64 c] 23)) (.cells (rtv l k x y zs).toArray 29)) (.cells #[.int .i64 r0, .int .i64 r1, .int .i64 r2] 22)) #[.int .i64 0, .int .i64 0, .int .i64 0, .int .i64 0, .int .i64 0, .int .i64 0] 32
    (try simp only [World.size_alloc] at h)
    exact h)
  have B0 := Lib.hid (show Below w.heap.size w (World.alloc (World.alloc (World.alloc (World.alloc w (.cells #[.int .i64 a, .int .i64 b, .int .i64 c] 23)) (.cells (rtv l k x y zs).toArray 29)) (.cells #[.int .i64 r0, .int .i64 r1, .int .i64 r2] 22)) (.cells #[.int .i64 0, .int .i64 0, .int .i64 0, .int .i64 0, .int .i64 0, .int .i64 0] 32)) from (((bel_alloc1 w _).alloc (by simp) _).alloc (by simp; omega) _).alloc (by simp; omega) _)
  go_enter Tryz.func7, Tryz.ntmps7
  go_upto_region 1 with fail
  generalize World.alloc (World.alloc (World.alloc (World.alloc w _) _) _) _ = W0 at A0 X0 R0 Z0 B0 ⊢
  have a0 := A0.out.cell 0
  have a1 := A0.out.cell 1
  have a2 := A0.out.cell 2
  have z0 := Z0.out.cell 0
  have y0 := Z0.out.frozen 0
  have z1 := Z0.out.cell 1
  have y1 := Z0.out.frozen 1
  have z2 := Z0.out.cell 2
  have y2 := Z0.out.frozen 2
  have z3 := Z0.out.cell 3
  have y3 := Z0.out.frozen 3
  have z4 := Z0.out.cell 4
  have y4 := Z0.out.frozen 4
  have z5 := Z0.out.cell 5
  have y5 := Z0.out.frozen 5
  go_wp2_with (first
    | (go_at_call 18; refine (rrword_is a true _ ha).mono ?_; rintro r u1 ⟨rfl, rfl⟩)
    | (go_at_call 18; refine (rrword_is b true _ hb).mono ?_; rintro r u1 ⟨rfl, rfl⟩)
    | (go_at_call 18; refine (rrword_is c false _ hc).mono ?_; rintro r u1 ⟨rfl, rfl⟩))
  have hJ : Blk ((((((W0.setCell ⟨w.heap.size + 1 + 1 + 1, 0, none⟩ (.int .i64 0)).setCell ⟨w.heap.size + 1 + 1 + 1, 1, none⟩ (.int .i64 0)).setCell ⟨w.heap.size + 1 + 1 + 1, 2, none⟩ (.int .i64 0)).setCell ⟨w.heap.size + 1 + 1 + 1, 3, none⟩ (.int .i64 0)).setCell ⟨w.heap.size + 1 + 1 + 1, 4, none⟩ (.int .i64 0)).setCell ⟨w.heap.size + 1 + 1 + 1, 5, none⟩ (.int .i64 0)) (w.heap.size + 1 + 1 + 1) #[.int .i64 0, .int .i64 0, .int .i64 0, .int .i64 0, .int .i64 0, .int .i64 0] 32 := six_stored Z0.out _ _ _ _ _ _
  have hB : Below w.heap.size w ((((((W0.setCell ⟨w.heap.size + 1 + 1 + 1, 0, none⟩ (.int .i64 0)).setCell ⟨w.heap.size + 1 + 1 + 1, 1, none⟩ (.int .i64 0)).setCell ⟨w.heap.size + 1 + 1 + 1, 2, none⟩ (.int .i64 0)).setCell ⟨w.heap.size + 1 + 1 + 1, 3, none⟩ (.int .i64 0)).setCell ⟨w.heap.size + 1 + 1 + 1, 4, none⟩ (.int .i64 0)).setCell ⟨w.heap.size + 1 + 1 + 1, 5, none⟩ (.int .i64 0)) := six_below B0.out (by omega) _ _ _ _ _ _
  generalize ((((((W0.setCell ⟨w.heap.size + 1 + 1 + 1, 0, none⟩ (.int .i64 0)).setCell ⟨w.heap.size + 1 + 1 + 1, 1, none⟩ (.int .i64 0)).setCell ⟨w.heap.size + 1 + 1 + 1, 2, none⟩ (.int .i64 0)).setCell ⟨w.heap.size + 1 + 1 + 1, 3, none⟩ (.int .i64 0)).setCell ⟨w.heap.size + 1 + 1 + 1, 4, none⟩ (.int .i64 0)).setCell ⟨w.heap.size + 1 + 1 + 1, 5, none⟩ (.int .i64 0)) = W9 at hJ hB ⊢
  obtain ⟨g0, g1, g2, g3, g4, g5⟩ := res6_ret hJ
  refine bodyPost_ret (v := .tuple #[sealedV 0 0 0 0 0 0, .int .i64 430]) (by simp [results, Tryz.results7, go_sem, g0, g1, g2, g3, g4, g5]) rfl ⟨rfl, hB⟩
set_option maxRecDepth 100000 in
set_option maxHeartbeats 4000000 in
theorem rrMake_use (sec a b c l k x y : Int) (zs : List Int) (r0 r1 r2 : Int) (w : World) (hz : Hid (zs.length = 32)) (s0 : ¬ sec < 1) (s1 : ¬ 1073741789 ≤ sec) (ha : Hid (wordB a = true)) (hb : Hid (wordB b = true)) (hc : Hid (wordB c = true)) (hok : Hid (∀ x ∈ intsA [a, b, c], x.ok)) (e0 e1 : Int) (hsig : Hid (IsSig sec (ltx a b c) e0 e1)) (hr0 : 0 ≤ e0 ∧ e0 < 1073741789) (hr1 : 0 ≤ e1 ∧ e1 < 1073741789) (s0v s1v s2v s3v s4v s5v ue : Int) (HU : Hid (∀ g : World, Below w.heap.size w g → Calls Tryz.prog 21 #[.agg (rtv l k x y zs).toArray, .agg #[.int .i64 (e0 + 1), .int .i64 (e1 + 1)], .agg #[.int .i64 r0, .int .i64 r1, .int .i64 r2]] g fun e w' => e = .returned (.tuple #[sealedV s0v s1v s2v s3v s4v s5v, .int .i64 ue]) ∧ Below g.heap.size g w')) :
    Calls Tryz.prog 7 #[.int .i64 sec, .agg #[.int .i64 a, .int .i64 b, .int .i64 c], .agg (rtv l k x y zs).toArray, .agg #[.int .i64 r0, .int .i64 r1, .int .i64 r2]] w fun e w' => e = .returned (.tuple #[sealedV s0v s1v s2v s3v s4v s5v, .int .i64 ue]) ∧ Below w.heap.size w w' := by
  have A0 := Lib.hid (show Blk (World.alloc (World.alloc (World.alloc (World.alloc w (.cells #[.int .i64 a, .int .i64 b, .int .i64 c] 23)) (.cells (rtv l k x y zs).toArray 29)) (.cells #[.int .i64 r0, .int .i64 r1, .int .i64 r2] 22)) (.cells #[.int .i64 0, .int .i64 0, .int .i64 0, .int .i64 0, .int .i64 0, .int .i64 0] 32)) (w.heap.size) #[.int .i64 a, .int .i64 b, .int .i64 c] 23 by
    have h := Blk.new w #[.int .i64 a, .int .i64 b, .int .i64 c] 23
    (try simp only [World.size_alloc] at h)
    exact (((h.alloc _).alloc _).alloc _))
  have X0 := Lib.hid (show RBlk (World.alloc (World.alloc (World.alloc (World.alloc w (.cells #[.int .i64 a, .int .i64 b, .int .i64 c] 23)) (.cells (rtv l k x y zs).toArray 29)) (.cells #[.int .i64 r0, .int .i64 r1, .int .i64 r2] 22)) (.cells #[.int .i64 0, .int .i64 0, .int .i64 0, .int .i64 0, .int .i64 0, .int .i64 0] 32)) (w.heap.size + 1) l k x y zs by
    have h := RBlk.box (World.alloc w (.cells #[.int .i64 a, .int .i64 b, .int .i64 c] 23)) l k x y hz.out
    (try simp only [World.size_alloc] at h)
    exact ((h.alloc _).alloc _))
  have R0 := Lib.hid (show Blk (World.alloc (World.alloc (World.alloc (World.alloc w (.cells #[.int .i64 a, .int .i64 b, .int .i64 c] 23)) (.cells (rtv l k x y zs).toArray 29)) (.cells #[.int .i64 r0, .int .i64 r1, .int .i64 r2] 22)) (.cells #[.int .i64 0, .int .i64 0, .int .i64 0, .int .i64 0, .int .i64 0, .int .i64 0] 32)) (w.heap.size + 1 + 1) #[.int .i64 r0, .int .i64 r1, .int .i64 r2] 22 by
    have h := Blk.new (World.alloc (World.alloc w (.cells #[.int .i64 a, .int .i64 b, .int .i64 c] 23)) (.cells (rtv l k x y zs).toArray 29)) #[.int .i64 r0, .int .i64 r1, .int .i64 r2] 22
    (try simp only [World.size_alloc] at h)
    exact (h.alloc _))
  have Z0 := Lib.hid (show Blk (World.alloc (World.alloc (World.alloc (World.alloc w (.cells #[.int .i64 a, .int .i64 b, .int .i64 c] 23)) (.cells (rtv l k x y zs).toArray 29)) (.cells #[.int .i64 r0, .int .i64 r1, .int .i64 r2] 22)) (.cells #[.int .i64 0, .int .i64 0, .int .i64 0, .int .i64 0, .int .i64 0, .int .i64 0] 32)) (w.heap.size + 1 + 1 + 1) #[.int .i64 0, .int .i64 0, .int .i64 0, .int .i64 0, .int .i64 0, .int .i64 0] 32 by
    have h := Blk.new (World.alloc (World.alloc (World.alloc w (.cells #[.int .i64 a, .int .i64 b, .int .i64 c] 23)) (.cells (rtv l k x y zs).toArray 29)) (.cells #[.int .i64 r0, .int .i64 r1, .int .i64 r2] 22)) #[.int .i64 0, .int .i64 0, .int .i64 0, .int .i64 0, .int .i64 0, .int .i64 0] 32
    (try simp only [World.size_alloc] at h)
    exact h)
  have B0 := Lib.hid (show Below w.heap.size w (World.alloc (World.alloc (World.alloc (World.alloc w (.cells #[.int .i64 a, .int .i64 b, .int .i64 c] 23)) (.cells (rtv l k x y zs).toArray 29)) (.cells #[.int .i64 r0, .int .i64 r1, .int .i64 r2] 22)) (.cells #[.int .i64 0, .int .i64 0, .int .i64 0, .int .i64 0, .int .i64 0, .int .i64 0] 32)) from (((bel_alloc1 w _).alloc (by simp) _).alloc (by simp; omega) _).alloc (by simp; omega) _)
  go_enter Tryz.func7, Tryz.ntmps7
  go_upto_region 1 with fail
  generalize World.alloc (World.alloc (World.alloc (World.alloc w _) _) _) _ = W0 at A0 X0 R0 Z0 B0 ⊢
  have a0 := A0.out.cell 0
  have a1 := A0.out.cell 1
  have a2 := A0.out.cell 2
  go_upto_region 6 with (first
    | (go_at_call 18; refine (rrword_is a true _ ha).mono ?_; rintro r u1 ⟨rfl, rfl⟩)
    | (go_at_call 18; refine (rrword_is b true _ hb).mono ?_; rintro r u1 ⟨rfl, rfl⟩)
    | (go_at_call 18; refine (rrword_is c true _ hc).mono ?_; rintro r u1 ⟨rfl, rfl⟩)
    | (go_at_call 20; refine (rrtext_is a b c _ hok).mono ?_; rintro e w2 ⟨v2, rfl, o2, hb⟩; have B2 := Lib.hid (bel_trans B0.out hb); have X2 := Lib.hid (X0.out.bel hb); have R2 := Lib.hid (R0.out.below hb R0.out.lt); have Z2 := Lib.hid (Z0.out.below hb Z0.out.lt); have O2 := Lib.hid o2; obtain ⟨p2, cp2, hv2, q1, q2, q3, _⟩ := own8_src O2.out; subst v2; have SP := Lib.hid q1; clear o2 hb q1 q2 q3 a0 a1 a2)
    | (go_at_call 19; refine (rsign_yes sec p2 _ cp2 (ltx a b c) _ (by omega) (by omega) (Lib.hid (ltx_ok hok.out)) (Lib.hid (.inl SP.out)) e0 e1 hsig).mono ?_; rintro e w3 ⟨rfl, hb⟩; have B3 := Lib.hid (bel_trans B2.out hb); have X3 := Lib.hid (X2.out.bel hb); have R3 := Lib.hid (R2.out.below hb R2.out.lt); have Z3 := Lib.hid (Z2.out.below hb Z2.out.lt); clear hb))
  have hb := bel_alloc1 w3 (.cells #[.int .i64 e0, .int .i64 e1] 46)
  have G4 := Lib.hid (Blk.new w3 #[.int .i64 e0, .int .i64 e1] 46)
  generalize World.alloc w3 _ = w4 at hb G4 ⊢
  have B4 := Lib.hid (bel_trans B3.out hb)
  have X4 := Lib.hid (X3.out.bel hb)
  have R4 := Lib.hid (R3.out.below hb R3.out.lt)
  have Z4 := Lib.hid (Z3.out.below hb Z3.out.lt)
  clear hb
  generalize w3.heap.size = gb at G4 ⊢
  have g0 := G4.out.cell 0
  have g1 := G4.out.cell 1
  have r0c := R4.out.cell 0
  have r1c := R4.out.cell 1
  have r2c := R4.out.cell 2
  go_wp2_with (first
    | (refine list_loadR (by rfl) (.tmp 6) rfl (w.heap.size + 1) rfl l k x y zs X4.out ?_)
    | (go_at_call 21; refine (HU.out _ B4.out).mono ?_; rintro e w6 ⟨rfl, hb⟩; have B6 := Lib.hid (bel_trans B4.out hb); have Z6 := Lib.hid (Z4.out.below hb Z4.out.lt); have z0 := Z6.out.cell 0; have y0 := Z6.out.frozen 0; have z1 := Z6.out.cell 1; have y1 := Z6.out.frozen 1; have z2 := Z6.out.cell 2; have y2 := Z6.out.frozen 2; have z3 := Z6.out.cell 3; have y3 := Z6.out.frozen 3; have z4 := Z6.out.cell 4; have y4 := Z6.out.frozen 4; have z5 := Z6.out.cell 5; have y5 := Z6.out.frozen 5; clear hb))
  have hJ : Blk ((((((w6.setCell ⟨w.heap.size + 1 + 1 + 1, 0, none⟩ (.int .i64 s0v)).setCell ⟨w.heap.size + 1 + 1 + 1, 1, none⟩ (.int .i64 s1v)).setCell ⟨w.heap.size + 1 + 1 + 1, 2, none⟩ (.int .i64 s2v)).setCell ⟨w.heap.size + 1 + 1 + 1, 3, none⟩ (.int .i64 s3v)).setCell ⟨w.heap.size + 1 + 1 + 1, 4, none⟩ (.int .i64 s4v)).setCell ⟨w.heap.size + 1 + 1 + 1, 5, none⟩ (.int .i64 s5v)) (w.heap.size + 1 + 1 + 1) #[.int .i64 s0v, .int .i64 s1v, .int .i64 s2v, .int .i64 s3v, .int .i64 s4v, .int .i64 s5v] 32 := six_stored Z6.out _ _ _ _ _ _
  have hB : Below w.heap.size w ((((((w6.setCell ⟨w.heap.size + 1 + 1 + 1, 0, none⟩ (.int .i64 s0v)).setCell ⟨w.heap.size + 1 + 1 + 1, 1, none⟩ (.int .i64 s1v)).setCell ⟨w.heap.size + 1 + 1 + 1, 2, none⟩ (.int .i64 s2v)).setCell ⟨w.heap.size + 1 + 1 + 1, 3, none⟩ (.int .i64 s3v)).setCell ⟨w.heap.size + 1 + 1 + 1, 4, none⟩ (.int .i64 s4v)).setCell ⟨w.heap.size + 1 + 1 + 1, 5, none⟩ (.int .i64 s5v)) := six_below B6.out (by omega) _ _ _ _ _ _
  generalize ((((((w6.setCell ⟨w.heap.size + 1 + 1 + 1, 0, none⟩ (.int .i64 s0v)).setCell ⟨w.heap.size + 1 + 1 + 1, 1, none⟩ (.int .i64 s1v)).setCell ⟨w.heap.size + 1 + 1 + 1, 2, none⟩ (.int .i64 s2v)).setCell ⟨w.heap.size + 1 + 1 + 1, 3, none⟩ (.int .i64 s3v)).setCell ⟨w.heap.size + 1 + 1 + 1, 4, none⟩ (.int .i64 s4v)).setCell ⟨w.heap.size + 1 + 1 + 1, 5, none⟩ (.int .i64 s5v)) = W9 at hJ hB ⊢
  obtain ⟨g0, g1, g2, g3, g4, g5⟩ := res6_ret hJ
  refine bodyPost_ret (v := .tuple #[sealedV s0v s1v s2v s3v s4v s5v, .int .i64 ue]) (by simp [results, Tryz.results7, go_sem, g0, g1, g2, g3, g4, g5]) rfl ⟨rfl, hB⟩
end Go.Proofs.YtpjobllfiimdkaaGreatDoor
