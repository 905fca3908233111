/- The reference of layer 2: turned words, a word of four bytes, the numbers K. The numbers K of the reference. The reference of layer 2: the bytes with their end. The reference of layer 2: the state after a block. The reference of layer 2: Sum. The reference of layer 2: Tagged. -/
import Derived.Test.YtllcgehfmkmcdaaDoorDigSum
import Derived.Test.YtllcgehfmkmcdaaDoorDigPadW
import Derived.Test.YtllcgehfmkmcdaaDoorQuietTail
import Derived.Test.YtllcgehfmkmcdaaDoorDigTag
namespace Go.Proofs.YtllcgehfmkmcdaaDoor
open Go.RowKit
set_option linter.unusedVariables false
set_option linter.unusedSimpArgs false

set_option maxHeartbeats 400000 in
theorem rror2_c (x : Int) (w : World) : Calls Tryd.prog 63 #[.int .u32 x, .int .i64 2] w fun e w' => e = .returned (.int .u32 (rr x 2)) ∧ ∃ m, w' = w.drewN m := by
  go_enter Tryd.func63, Tryd.ntmps63
  go_wp2_with fail
  go_quiet (fail)
  go_wp2_with fail
  go_ret
  exact ⟨rfl, _, rfl⟩
set_option maxHeartbeats 400000 in
theorem rror6_c (x : Int) (w : World) : Calls Tryd.prog 63 #[.int .u32 x, .int .i64 6] w fun e w' => e = .returned (.int .u32 (rr x 6)) ∧ ∃ m, w' = w.drewN m := by
  go_enter Tryd.func63, Tryd.ntmps63
  go_wp2_with fail
  go_quiet (fail)
  go_wp2_with fail
  go_ret
  exact ⟨rfl, _, rfl⟩
set_option maxHeartbeats 400000 in
theorem rror7_c (x : Int) (w : World) : Calls Tryd.prog 63 #[.int .u32 x, .int .i64 7] w fun e w' => e = .returned (.int .u32 (rr x 7)) ∧ ∃ m, w' = w.drewN m := by
  go_enter Tryd.func63, Tryd.ntmps63
  go_wp2_with fail
  go_quiet (fail)
  go_wp2_with fail
  go_ret
  exact ⟨rfl, _, rfl⟩
set_option maxHeartbeats 400000 in
theorem rror11_c (x : Int) (w : World) : Calls Tryd.prog 63 #[.int .u32 x, .int .i64 11] w fun e w' => e = .returned (.int .u32 (rr x 11)) ∧ ∃ m, w' = w.drewN m := by
  go_enter Tryd.func63, Tryd.ntmps63
  go_wp2_with fail
  go_quiet (fail)
  go_wp2_with fail
  go_ret
  exact ⟨rfl, _, rfl⟩
set_option maxHeartbeats 400000 in
theorem rror13_c (x : Int) (w : World) : Calls Tryd.prog 63 #[.int .u32 x, .int .i64 13] w fun e w' => e = .returned (.int .u32 (rr x 13)) ∧ ∃ m, w' = w.drewN m := by
  go_enter Tryd.func63, Tryd.ntmps63
  go_wp2_with fail
  go_quiet (fail)
  go_wp2_with fail
  go_ret
  exact ⟨rfl, _, rfl⟩
set_option maxHeartbeats 400000 in
theorem rror17_c (x : Int) (w : World) : Calls Tryd.prog 63 #[.int .u32 x, .int .i64 17] w fun e w' => e = .returned (.int .u32 (rr x 17)) ∧ ∃ m, w' = w.drewN m := by
  go_enter Tryd.func63, Tryd.ntmps63
  go_wp2_with fail
  go_quiet (fail)
  go_wp2_with fail
  go_ret
  exact ⟨rfl, _, rfl⟩
set_option maxHeartbeats 400000 in
theorem rror18_c (x : Int) (w : World) : Calls Tryd.prog 63 #[.int .u32 x, .int .i64 18] w fun e w' => e = .returned (.int .u32 (rr x 18)) ∧ ∃ m, w' = w.drewN m := by
  go_enter Tryd.func63, Tryd.ntmps63
  go_wp2_with fail
  go_quiet (fail)
  go_wp2_with fail
  go_ret
  exact ⟨rfl, _, rfl⟩
set_option maxHeartbeats 400000 in
theorem rror19_c (x : Int) (w : World) : Calls Tryd.prog 63 #[.int .u32 x, .int .i64 19] w fun e w' => e = .returned (.int .u32 (rr x 19)) ∧ ∃ m, w' = w.drewN m := by
  go_enter Tryd.func63, Tryd.ntmps63
  go_wp2_with fail
  go_quiet (fail)
  go_wp2_with fail
  go_ret
  exact ⟨rfl, _, rfl⟩
set_option maxHeartbeats 400000 in
theorem rror22_c (x : Int) (w : World) : Calls Tryd.prog 63 #[.int .u32 x, .int .i64 22] w fun e w' => e = .returned (.int .u32 (rr x 22)) ∧ ∃ m, w' = w.drewN m := by
  go_enter Tryd.func63, Tryd.ntmps63
  go_wp2_with fail
  go_quiet (fail)
  go_wp2_with fail
  go_ret
  exact ⟨rfl, _, rfl⟩
set_option maxHeartbeats 400000 in
theorem rror25_c (x : Int) (w : World) : Calls Tryd.prog 63 #[.int .u32 x, .int .i64 25] w fun e w' => e = .returned (.int .u32 (rr x 25)) ∧ ∃ m, w' = w.drewN m := by
  go_enter Tryd.func63, Tryd.ntmps63
  go_wp2_with fail
  go_quiet (fail)
  go_wp2_with fail
  go_ret
  exact ⟨rfl, _, rfl⟩

set_option maxHeartbeats 1000000 in
theorem rword_any (b off cap : Nat) (x0 x1 x2 x3 : Int) (w : World) (hcap : 4 ≤ cap) (hb : b < w.heap.size)
    (c0 : w.cell? ⟨b, off, none⟩ = some (.int .u8 x0)) (c1 : w.cell? ⟨b, off + 1, none⟩ = some (.int .u8 x1)) (c2 : w.cell? ⟨b, off + 2, none⟩ = some (.int .u8 x2)) (c3 : w.cell? ⟨b, off + 3, none⟩ = some (.int .u8 x3)) :
    Calls Tryd.prog 62 #[.slice (some ⟨b, off, none⟩) 4 cap] w fun e w' => e = .returned (.int .u32 (word4 x0 x1 x2 x3)) ∧ ∃ m, w' = w.drewN m := by
  go_enter Tryd.func62, Tryd.ntmps62
  go_wp2_with fail
  go_quiet (fail)
  go_wp2_with fail
  go_ret
  exact ⟨rfl, _, rfl⟩
end Go.Proofs.YtllcgehfmkmcdaaDoor
namespace Go.Proofs.YtllcgehfmkmcdaaDoor
open Go.RowKit
set_option linter.unusedVariables false
set_option linter.unusedSimpArgs false

theorem size64' (zs : List Int) (h : zs.length = 64) : (Tryd.prog.info? 78).map (·.size) = some (wv zs).length := by
  rw [wv_len, h]; kernel_rfl
set_option maxRecDepth 100000 in
set_option maxHeartbeats 1000000 in
theorem rnumbers_any (w : World) : Calls Tryd.prog 64 #[] w fun e w' => e = .returned (.agg (wv kK).toArray) ∧ Below w.heap.size w w' := by
  have hlit : [.int .u32 1116352408, .int .u32 1899447441, .int .u32 3049323471, .int .u32 3921009573, .int .u32 961987163, .int .u32 1508970993, .int .u32 2453635748, .int .u32 2870763221, .int .u32 3624381080, .int .u32 310598401, .int .u32 607225278, .int .u32 1426881987, .int .u32 1925078388, .int .u32 2162078206, .int .u32 2614888103, .int .u32 3248222580, .int .u32 3835390401, .int .u32 4022224774, .int .u32 264347078, .int .u32 604807628, .int .u32 770255983, .int .u32 1249150122, .int .u32 1555081692, .int .u32 1996064986, .int .u32 2554220882, .int .u32 2821834349, .int .u32 2952996808, .int .u32 3210313671, .int .u32 3336571891, .int .u32 3584528711, .int .u32 113926993, .int .u32 338241895, .int .u32 666307205, .int .u32 773529912, .int .u32 1294757372, .int .u32 1396182291, .int .u32 1695183700, .int .u32 1986661051, .int .u32 2177026350, .int .u32 2456956037, .int .u32 2730485921, .int .u32 2820302411, .int .u32 3259730800, .int .u32 3345764771, .int .u32 3516065817, .int .u32 3600352804, .int .u32 4094571909, .int .u32 275423344, .int .u32 430227734, .int .u32 506948616, .int .u32 659060556, .int .u32 883997877, .int .u32 958139571, .int .u32 1322822218, .int .u32 1537002063, .int .u32 1747873779, .int .u32 1955562222, .int .u32 2024104815, .int .u32 2227730452, .int .u32 2361852424, .int .u32 2428436474, .int .u32 2756734187, .int .u32 3204031479, .int .u32 3329325298] = wv kK := rfl
  have hkl : kK.length = 64 := rfl
  generalize kK = ks at hlit hkl ⊢
  have q1 := there64 w ks hkl
  have q2 := size64 ks hkl
  have q3 := all_oneCell_toArray (wv_one ks)
  have HL := Lib.hid hlit
  clear hlit
  go_enter Tryd.func64, Tryd.ntmps64
  go_upto_region 1 with (fail)
  go_wp2_with (refine wpList_store_mid rfl 78 (.tmp 0) (.tmp 1) rfl w.heap.size 0 (wv ks).toArray rfl ?hy q1 q2 q3 ?_)
  case hy => exact HL.out
  clear HL
  go_wp2_with fail
  refine bodyPost_ret (v := .agg (wv ks).toArray) (results_cell1 (a := ⟨w.heap.size, 0, none⟩) rfl _ rfl (run_loadVar_mid _ w.heap.size 0 _ (wv ks) _ ?_ Tryd.underlying78 rfl (size64' ks hkl))) rfl ⟨rfl, setCells_below (Nat.le_refl _) _ _ (bel_alloc1 _ _)⟩
  exact ((zeros64 w).fill (by rw [wv_len, wv_len, hkl, List.length_replicate])).range
end Go.Proofs.YtllcgehfmkmcdaaDoor
namespace Go.Proofs.YtllcgehfmkmcdaaDoor
open Go.RowKit
set_option linter.unusedVariables false
set_option linter.unusedSimpArgs false

def lenOfV : Value → Nat
  | .slice _ n _ => n
  | _ => 0
set_option maxRecDepth 100000 in
set_option maxHeartbeats 4000000 in
theorem rpad_any (p : Option Addr) (m cap : Nat) (bs : List Int) (w : World) (hz : Hid (SrcW w p m cap bs)) (hn : m ≤ 1000000000) (ls : List Int) (hls : Hid (IsLen m ls)) (zn : Nat) (hzn : (m + 1 + zn) % 64 = 56) (hz64 : zn < 64) :
    Calls Tryd.prog 52 #[.slice p m cap] w fun e w' => ∃ v, e = .returned v ∧ Own8 w' w.heap.size v ((bs ++ [128] ++ List.replicate zn 0) ++ ls) ∧ Below w.heap.size w w' := by
  have hml := Lib.hid hz.out.len
  have HZN := Lib.hid hzn; clear hzn
  go_enter Tryd.func52, Tryd.ntmps52
  go_wp2_with (at_builtin; refine app8w rfl (.tmp 6) (.tmp 7) rfl w.heap.size (.slice (some ⟨w.heap.size, 0, none⟩) 0 0) [] rfl ?c0 p m cap bs rfl ?c1 ?c2 ?c3 ?_)
  case c0 => exact own8_empty w
  case c1 => exact hz.out.below (bel_alloc1 _ _)
  case c2 => have := hml.out; simp; omega
  case c3 => simp
  intro v1 w1 ho hg
  have HB1 := Lib.hid (bel_grown8 (bel_alloc1 w _) (own8_empty w) hg (by simp))
  have HO1 := Lib.hid ho
  clear ho hg
  go_wp2_with (at_builtin; refine app8 rfl (.tmp 8) (.tmp 9) rfl w.heap.size v1 _ rfl (own8_alloc HO1.out _) (some ⟨w1.heap.size, 0, none⟩) 1 1 [128] rfl ?c1b ?c2b ?c3b ?_)
  case c1b => exact ⟨rfl, .inr ⟨_, _, rfl, by simp, one_byte w1 128⟩⟩
  case c2b => have := hml.out; simp; omega
  case c3b => have := HB1.out.size; simp; omega
  intro v2 w2 ho hg
  have HB2 := Lib.hid (bel_grown8 (HB1.out.alloc HB1.out.size _) (own8_alloc HO1.out _) hg (by have := HB1.out.size; simp; omega))
  have HO2 : Hid (Own8 w2 w.heap.size v2 (bs ++ [128] ++ List.replicate 0 0)) := Lib.hid (by simpa using ho)
  clear ho hg HB1 HO1
  go_wp2_with fail
  go_loopw [3] (fun x wr => ∃ (k : Nat) (v : Value), k ≤ zn ∧ v = x ∧ Hid (Own8 wr w.heap.size v (bs ++ [128] ++ List.replicate k 0)) ∧ Hid (Below w.heap.size w wr)) (fun x _ => m + 1 + zn - lenOfV x)
  case atStart => exact ⟨0, v2, by omega, rfl, HO2, HB2⟩
  case round =>
    clear HO2 HB2
    obtain ⟨k, v, hk, rfl, HO, HB⟩ := hrel
    obtain ⟨pv, cv, rfl, hsrc, hcv, hcm, hfr⟩ := own8_src HO.out
    have hlen : (bs ++ [128] ++ List.replicate k 0).length = m + 1 + k := by simp [hml.out]; omega
    rw [hlen] at hcv ⊢
    have HO' := HO.out
    rw [hlen] at HO'
    have HOv := Lib.hid HO'
    have HLN := Lib.hid hlen
    clear HO' HO hsrc hfr hlen
    obtain ⟨N, hN⟩ : ∃ N, m + 1 + k = N := ⟨_, rfl⟩
    rw [hN] at HOv hcv ⊢
    by_cases hlt : k < zn
    · have htest : ((N : Int) % 64 != 56) = true := by
        have := HZN.out
        simp only [bne_iff_ne, ne_eq]
        omega
      have HN := Lib.hid hN
      clear hN
      go_wp2_with (at_builtin; refine app8 rfl (.tmp 15) (.tmp 16) rfl w.heap.size (.slice pv N cv) (bs ++ [128] ++ List.replicate k 0) rfl (own8_alloc HOv.out _) (some ⟨wr.heap.size, 0, none⟩) 1 1 [0] rfl ?d1 ?d2 ?d3 ?_)
      case d1 => exact ⟨rfl, .inr ⟨_, _, rfl, by simp, one_byte wr 0⟩⟩
      case d2 => rw [HLN.out]; simp; omega
      case d3 => have := HB.out.size; simp; omega
      intro v3 w3 ho hg
      have HB3 := Lib.hid (bel_grown8 (HB.out.alloc HB.out.size _) (own8_alloc HOv.out _) hg (by have := HB.out.size; simp; omega))
      have HO3 : Hid (Own8 w3 w.heap.size v3 (bs ++ [128] ++ List.replicate (k + 1) 0)) := Lib.hid (by
        rw [List.replicate_succ']; simpa using ho)
      clear ho hg
      go_wp2_with fail
      go_roundw
      case rel => exact ⟨k + 1, v3, by omega, rfl, HO3, HB3⟩
      case measure =>
        obtain ⟨pv3, cv3, rfl, _⟩ := own8_src HO3.out
        have h1 : (bs ++ [128] ++ List.replicate (k + 1) 0).length = m + 1 + (k + 1) := by simp [hml.out]; omega
        have h2 := HN.out
        simp [lenOfV]
        simp at h1
        omega
    · obtain rfl : k = zn := by omega
      have htest : ((N : Int) % 64 != 56) = false := by
        have := HZN.out
        simp only [bne_eq_false_iff_eq]
        omega
      have HL4 : Hid ((bs ++ [128] ++ List.replicate k 0).length ≤ 1000000200) := Lib.hid (by rw [HLN.out]; omega)
      clear hN hk hlt hcv hcm
      obtain ⟨pre, hpre⟩ : ∃ pre, bs ++ [128] ++ List.replicate k 0 = pre := ⟨_, rfl⟩
      have HP := Lib.hid hpre
      rw [hpre] at HOv HL4
      clear hpre HLN
      go_wp2_with fail
      go_loopw [3, 5] (fun x i wr => ∃ (k : Nat) (n : Int) (v : Value), k ≤ 8 ∧ n = 7 - k ∧ i = .int .i64 n ∧ v = x ∧ Hid (Own8 wr w.heap.size v (pre ++ ls.take k)) ∧ Hid (Below w.heap.size w wr)) (fun _ i _ => (intOf i + 1).toNat)
      case atStart => exact ⟨0, 7, _, by omega, by omega, rfl, rfl, Lib.hid (by simpa using HOv.out), HB⟩
      case round =>
        clear HOv HB
        obtain ⟨k, n, v, hk8, hnk, rfl, rfl, HO, HB⟩ := hrel
        by_cases hlt : k < 8
        · rcases (by omega : (k = 0 ∧ n = 7) ∨ (k = 1 ∧ n = 6) ∨ (k = 2 ∧ n = 5) ∨ (k = 3 ∧ n = 4) ∨ (k = 4 ∧ n = 3) ∨ (k = 5 ∧ n = 2) ∨ (k = 6 ∧ n = 1) ∨ (k = 7 ∧ n = 0)) with ⟨rfl, rfl⟩ | ⟨rfl, rfl⟩ | ⟨rfl, rfl⟩ | ⟨rfl, rfl⟩ | ⟨rfl, rfl⟩ | ⟨rfl, rfl⟩ | ⟨rfl, rfl⟩ | ⟨rfl, rfl⟩
          · clear hnk
            have HV := Lib.hid (take_len hls.out 0 (by omega))
            go_wp2_with (at_builtin; refine app8 rfl (.tmp 26) (.tmp 32) rfl w.heap.size v _ rfl (own8_alloc HO.out _) (some ⟨wr.heap.size, 0, none⟩) 1 1 [(m : Int) * 8 / 72057594037927936] rfl ?c10 ?c20 ?c30 ?_)
            case c10 => exact ⟨rfl, .inr ⟨_, _, rfl, by simp, one_byte wr _⟩⟩
            case c20 => have := HL4.out; simp only [List.length_append, List.length_take, List.length_cons, List.length_nil]; omega
            case c30 => have := HB.out.size; simp; omega
            intro v2 w3 ho hg
            have HB3 := Lib.hid (bel_grown8 (HB.out.alloc HB.out.size _) (own8_alloc HO.out _) hg (by have := HB.out.size; simp; omega))
            have HO3 := Lib.hid ho
            clear hg ho
            go_wp2_with fail
            go_roundw
            case rel =>
              refine ⟨0 + 1, 6, v2, by omega, by omega, rfl, rfl, Lib.hid ?_, HB3⟩
              rw [HV.out]
              refine own_eq HO3.out ?_
              simp only [Nat.reduceMul, Nat.reduceSub, Int.reducePow, Nat.mul_zero, Nat.mul_one, Nat.sub_zero, Nat.sub_self, Int.pow_zero, Int.ediv_one]
              try omega
            case measure => simp [intOf]
          · clear hnk
            have HV := Lib.hid (take_len hls.out 1 (by omega))
            go_wp2_with (at_builtin; refine app8 rfl (.tmp 26) (.tmp 32) rfl w.heap.size v _ rfl (own8_alloc HO.out _) (some ⟨wr.heap.size, 0, none⟩) 1 1 [(m : Int) * 8 / 281474976710656] rfl ?c11 ?c21 ?c31 ?_)
            case c11 => exact ⟨rfl, .inr ⟨_, _, rfl, by simp, one_byte wr _⟩⟩
            case c21 => have := HL4.out; simp only [List.length_append, List.length_take, List.length_cons, List.length_nil]; omega
            case c31 => have := HB.out.size; simp; omega
            intro v2 w3 ho hg
            have HB3 := Lib.hid (bel_grown8 (HB.out.alloc HB.out.size _) (own8_alloc HO.out _) hg (by have := HB.out.size; simp; omega))
            have HO3 := Lib.hid ho
            clear hg ho
            go_wp2_with fail
            go_roundw
            case rel =>
              refine ⟨1 + 1, 5, v2, by omega, by omega, rfl, rfl, Lib.hid ?_, HB3⟩
              rw [HV.out]
              refine own_eq2 HO3.out ?_
              simp only [Nat.reduceMul, Nat.reduceSub, Int.reducePow, Nat.mul_zero, Nat.mul_one, Nat.sub_zero, Nat.sub_self, Int.pow_zero, Int.ediv_one]
              try omega
            case measure => simp [intOf]
          · clear hnk
            have HV := Lib.hid (take_len hls.out 2 (by omega))
            go_wp2_with (at_builtin; refine app8 rfl (.tmp 26) (.tmp 32) rfl w.heap.size v _ rfl (own8_alloc HO.out _) (some ⟨wr.heap.size, 0, none⟩) 1 1 [(m : Int) * 8 / 1099511627776] rfl ?c12 ?c22 ?c32 ?_)
            case c12 => exact ⟨rfl, .inr ⟨_, _, rfl, by simp, one_byte wr _⟩⟩
            case c22 => have := HL4.out; simp only [List.length_append, List.length_take, List.length_cons, List.length_nil]; omega
            case c32 => have := HB.out.size; simp; omega
            intro v2 w3 ho hg
            have HB3 := Lib.hid (bel_grown8 (HB.out.alloc HB.out.size _) (own8_alloc HO.out _) hg (by have := HB.out.size; simp; omega))
            have HO3 := Lib.hid ho
            clear hg ho
            go_wp2_with fail
            go_roundw
            case rel =>
              refine ⟨2 + 1, 4, v2, by omega, by omega, rfl, rfl, Lib.hid ?_, HB3⟩
              rw [HV.out]
              refine own_eq2 HO3.out ?_
              simp only [Nat.reduceMul, Nat.reduceSub, Int.reducePow, Nat.mul_zero, Nat.mul_one, Nat.sub_zero, Nat.sub_self, Int.pow_zero, Int.ediv_one]
              try omega
            case measure => simp [intOf]
          · clear hnk
            have HV := Lib.hid (take_len hls.out 3 (by omega))
            go_wp2_with (at_builtin; refine app8 rfl (.tmp 26) (.tmp 32) rfl w.heap.size v _ rfl (own8_alloc HO.out _) (some ⟨wr.heap.size, 0, none⟩) 1 1 [(m : Int) * 8 / 4294967296] rfl ?c13 ?c23 ?c33 ?_)
            case c13 => exact ⟨rfl, .inr ⟨_, _, rfl, by simp, one_byte wr _⟩⟩
            case c23 => have := HL4.out; simp only [List.length_append, List.length_take, List.length_cons, List.length_nil]; omega
            case c33 => have := HB.out.size; simp; omega
            intro v2 w3 ho hg
            have HB3 := Lib.hid (bel_grown8 (HB.out.alloc HB.out.size _) (own8_alloc HO.out _) hg (by have := HB.out.size; simp; omega))
            have HO3 := Lib.hid ho
            clear hg ho
            go_wp2_with fail
            go_roundw
            case rel =>
              refine ⟨3 + 1, 3, v2, by omega, by omega, rfl, rfl, Lib.hid ?_, HB3⟩
              rw [HV.out]
              refine own_eq2 HO3.out ?_
              simp only [Nat.reduceMul, Nat.reduceSub, Int.reducePow, Nat.mul_zero, Nat.mul_one, Nat.sub_zero, Nat.sub_self, Int.pow_zero, Int.ediv_one]
              try omega
            case measure => simp [intOf]
          · clear hnk
            have HV := Lib.hid (take_len hls.out 4 (by omega))
            go_wp2_with (at_builtin; refine app8 rfl (.tmp 26) (.tmp 32) rfl w.heap.size v _ rfl (own8_alloc HO.out _) (some ⟨wr.heap.size, 0, none⟩) 1 1 [(m : Int) * 8 / 16777216 % 256] rfl ?c14 ?c24 ?c34 ?_)
            case c14 => exact ⟨rfl, .inr ⟨_, _, rfl, by simp, one_byte wr _⟩⟩
            case c24 => have := HL4.out; simp only [List.length_append, List.length_take, List.length_cons, List.length_nil]; omega
            case c34 => have := HB.out.size; simp; omega
            intro v2 w3 ho hg
            have HB3 := Lib.hid (bel_grown8 (HB.out.alloc HB.out.size _) (own8_alloc HO.out _) hg (by have := HB.out.size; simp; omega))
            have HO3 := Lib.hid ho
            clear hg ho
            go_wp2_with fail
            go_roundw
            case rel =>
              refine ⟨4 + 1, 2, v2, by omega, by omega, rfl, rfl, Lib.hid ?_, HB3⟩
              rw [HV.out]
              refine own_eq2 HO3.out ?_
              simp only [Nat.reduceMul, Nat.reduceSub, Int.reducePow, Nat.mul_zero, Nat.mul_one, Nat.sub_zero, Nat.sub_self, Int.pow_zero, Int.ediv_one]
              try omega
            case measure => simp [intOf]
          · clear hnk
            have HV := Lib.hid (take_len hls.out 5 (by omega))
            go_wp2_with (at_builtin; refine app8 rfl (.tmp 26) (.tmp 32) rfl w.heap.size v _ rfl (own8_alloc HO.out _) (some ⟨wr.heap.size, 0, none⟩) 1 1 [(m : Int) * 8 / 65536 % 256] rfl ?c15 ?c25 ?c35 ?_)
            case c15 => exact ⟨rfl, .inr ⟨_, _, rfl, by simp, one_byte wr _⟩⟩
            case c25 => have := HL4.out; simp only [List.length_append, List.length_take, List.length_cons, List.length_nil]; omega
            case c35 => have := HB.out.size; simp; omega
            intro v2 w3 ho hg
            have HB3 := Lib.hid (bel_grown8 (HB.out.alloc HB.out.size _) (own8_alloc HO.out _) hg (by have := HB.out.size; simp; omega))
            have HO3 := Lib.hid ho
            clear hg ho
            go_wp2_with fail
            go_roundw
            case rel =>
              refine ⟨5 + 1, 1, v2, by omega, by omega, rfl, rfl, Lib.hid ?_, HB3⟩
              rw [HV.out]
              refine own_eq2 HO3.out ?_
              simp only [Nat.reduceMul, Nat.reduceSub, Int.reducePow, Nat.mul_zero, Nat.mul_one, Nat.sub_zero, Nat.sub_self, Int.pow_zero, Int.ediv_one]
              try omega
            case measure => simp [intOf]
          · clear hnk
            have HV := Lib.hid (take_len hls.out 6 (by omega))
            go_wp2_with (at_builtin; refine app8 rfl (.tmp 26) (.tmp 32) rfl w.heap.size v _ rfl (own8_alloc HO.out _) (some ⟨wr.heap.size, 0, none⟩) 1 1 [(m : Int) * 8 / 256 % 256] rfl ?c16 ?c26 ?c36 ?_)
            case c16 => exact ⟨rfl, .inr ⟨_, _, rfl, by simp, one_byte wr _⟩⟩
            case c26 => have := HL4.out; simp only [List.length_append, List.length_take, List.length_cons, List.length_nil]; omega
            case c36 => have := HB.out.size; simp; omega
            intro v2 w3 ho hg
            have HB3 := Lib.hid (bel_grown8 (HB.out.alloc HB.out.size _) (own8_alloc HO.out _) hg (by have := HB.out.size; simp; omega))
            have HO3 := Lib.hid ho
            clear hg ho
            go_wp2_with fail
            go_roundw
            case rel =>
              refine ⟨6 + 1, 0, v2, by omega, by omega, rfl, rfl, Lib.hid ?_, HB3⟩
              rw [HV.out]
              refine own_eq2 HO3.out ?_
              simp only [Nat.reduceMul, Nat.reduceSub, Int.reducePow, Nat.mul_zero, Nat.mul_one, Nat.sub_zero, Nat.sub_self, Int.pow_zero, Int.ediv_one]
              try omega
            case measure => simp [intOf]
          · clear hnk
            have HV := Lib.hid (take_len hls.out 7 (by omega))
            go_wp2_with (at_builtin; refine app8 rfl (.tmp 26) (.tmp 32) rfl w.heap.size v _ rfl (own8_alloc HO.out _) (some ⟨wr.heap.size, 0, none⟩) 1 1 [(m : Int) * 8 % 256] rfl ?c17 ?c27 ?c37 ?_)
            case c17 => exact ⟨rfl, .inr ⟨_, _, rfl, by simp, one_byte wr _⟩⟩
            case c27 => have := HL4.out; simp only [List.length_append, List.length_take, List.length_cons, List.length_nil]; omega
            case c37 => have := HB.out.size; simp; omega
            intro v2 w3 ho hg
            have HB3 := Lib.hid (bel_grown8 (HB.out.alloc HB.out.size _) (own8_alloc HO.out _) hg (by have := HB.out.size; simp; omega))
            have HO3 := Lib.hid ho
            clear hg ho
            go_wp2_with fail
            go_roundw
            case rel =>
              refine ⟨7 + 1, -1, v2, by omega, by omega, rfl, rfl, Lib.hid ?_, HB3⟩
              rw [HV.out]
              refine own_eq2 HO3.out ?_
              simp only [Nat.reduceMul, Nat.reduceSub, Int.reducePow, Nat.mul_zero, Nat.mul_one, Nat.sub_zero, Nat.sub_self, Int.pow_zero, Int.ediv_one]
              try omega
            case measure => simp [intOf]
        · obtain rfl : k = 8 := by omega
          obtain rfl : n = -1 := by omega
          have ho := HO.out
          rw [List.take_of_length_le (by rw [hls.out.1]; omega)] at ho
          have HE := Lib.hid ho
          clear ho
          go_wp2_with fail
          go_ret
          exact ⟨v, rfl, by rw [HP.out]; exact HE.out, HB.out⟩
end Go.Proofs.YtllcgehfmkmcdaaDoor
namespace Go.Proofs.YtllcgehfmkmcdaaDoor
open Go.RowKit
set_option linter.unusedVariables false
set_option linter.unusedSimpArgs false

theorem word4_sched {bs ws : List Int} (hr : ∀ z ∈ bs, 0 ≤ z ∧ z ≤ 255) (hws : IsSched bs ws) {k : Nat} (hk : k < 16) : word4 (bs.getD (4 * k) 0) (bs.getD (4 * k + 1) 0) (bs.getD (4 * k + 2) 0) (bs.getD (4 * k + 3) 0) = ws.getD k 0 := by
  rw [word4_eq bs hr k, hws.2.1 k hk]
theorem Blk.dn {W : World} {b : Nat} {c : Array Value} {t : TypeId} (h : Blk W b c t) (n : Nat) : Blk (W.drewN n) b c t := h
/-- what stands through the reference's work on a block -/
def Stand (w W : World) (wb : Nat) (s : S8) (ws : List Int) : Prop :=
  Below w.heap.size w W ∧ Blk W w.heap.size (wv s.toList).toArray 67 ∧ Blk W (w.heap.size + 1) (wv (List.replicate 8 0)).toArray 67 ∧ Blk W wb (wv ws).toArray 78 ∧ w.heap.size + 2 ≤ wb
theorem Stand.dn {w W : World} {wb : Nat} {s : S8} {ws : List Int} (h : Stand w W wb s ws) (n : Nat) : Stand w (W.drewN n) wb s ws := ⟨bel_dn h.1 n, h.2⟩
theorem Stand.set {w W : World} {wb : Nat} {s : S8} {ws : List Int} (h : Stand w W wb s ws) (k : Nat) (x : Int) : Stand w (W.setCell ⟨wb, k, none⟩ (.int .u32 x)) wb s (ws.set k x) := by
  refine ⟨h.1.setCell (p := ⟨wb, k, none⟩) (by have := h.2.2.2.2; show w.heap.size ≤ wb; omega) _, h.2.1.other (b' := wb) k _ (by have := h.2.2.2.2; omega), h.2.2.1.other (b' := wb) k _ (by have := h.2.2.2.2; omega), ?_, h.2.2.2.2⟩
  have := h.2.2.2.1.set k (.int .u32 x)
  rw [wv_set] at this
  exact this

theorem len8 (S : S8) : (wv S.toList).length = (wv (List.replicate 8 0)).length := rfl
theorem sizeT8' (zs : List Int) (h : zs.length = 8) : (Tryd.prog.info? 67).map (·.size) = some (wv zs).length := by
  rw [wv_len, h]; kernel_rfl
theorem sizeT8 (zs : List Int) (h : zs.length = 8) : (Tryd.prog.info? 67).map (·.size) = some (wv zs).toArray.size := by
  simp only [List.size_toArray, wv_len, h]; kernel_rfl
theorem nest5 (h a b k w : Int) : ((((h + a) % 4294967296 + b) % 4294967296 + k) % 4294967296 + w) % 4294967296 = (h + a + b + k + w) % 4294967296 := by omega
theorem Stand.below {w W W' : World} {wb : Nat} {s : S8} {ws : List Int} (h : Stand w W wb s ws) (k : Below W.heap.size W W') : Stand w W' wb s ws :=
  ⟨h.1.trans (k.mono h.1.size), h.2.1.below k h.2.1.lt, h.2.2.1.below k h.2.2.1.lt, h.2.2.2.1.below k h.2.2.2.1.lt, h.2.2.2.2⟩
theorem Stand.others {w W : World} {wb b : Nat} {s : S8} {ws : List Int} (h : Stand w W wb s ws) (hb : wb < b) (hn : w.heap.size ≤ b) (vs : List Value) (o : Nat) : Stand w (W.setCells b o vs) wb s ws :=
  ⟨setCells_below hn _ _ h.1, Blk.others (by have := h.2.2.2.2; omega) _ _ h.2.1, Blk.others (by have := h.2.2.2.2; omega) _ _ h.2.2.1, Blk.others (by omega) _ _ h.2.2.2.1, h.2.2.2.2⟩

set_option maxRecDepth 100000 in
set_option maxHeartbeats 1600000 in
theorem rblock_any (s : S8) (b off cap : Nat) (bs : List Int) (w : World) (hl : Hid (bs.length = 64)) (hcap : 64 ≤ cap) (hmax : cap ≤ 9223372036854775807) (hb : b < w.heap.size)
    (hc : Hid (BytesAt w b off bs)) (hr : Hid (∀ z ∈ bs, 0 ≤ z ∧ z ≤ 255)) (ws : List Int) (hws : Hid (IsSched bs ws)) (R : Nat → S8) (hR : Hid (IsRounds s ws R)) :
    Calls Tryd.prog 53 #[.agg #[.int .u32 s.a, .int .u32 s.b, .int .u32 s.c, .int .u32 s.d, .int .u32 s.e, .int .u32 s.f, .int .u32 s.g, .int .u32 s.h], .slice (some ⟨b, off, none⟩) 64 cap] w
      fun e w' => e = .returned (.agg (wv (addS s (R 64)).toList).toArray) ∧ Below w.heap.size w w' := by
  have hz64 : (List.replicate 64 (0 : Int)).length = 64 := by simp
  have hlit : [.int .u32 0, .int .u32 0, .int .u32 0, .int .u32 0, .int .u32 0, .int .u32 0, .int .u32 0, .int .u32 0, .int .u32 0, .int .u32 0, .int .u32 0, .int .u32 0, .int .u32 0, .int .u32 0, .int .u32 0, .int .u32 0, .int .u32 0, .int .u32 0, .int .u32 0, .int .u32 0, .int .u32 0, .int .u32 0, .int .u32 0, .int .u32 0, .int .u32 0, .int .u32 0, .int .u32 0, .int .u32 0, .int .u32 0, .int .u32 0, .int .u32 0, .int .u32 0, .int .u32 0, .int .u32 0, .int .u32 0, .int .u32 0, .int .u32 0, .int .u32 0, .int .u32 0, .int .u32 0, .int .u32 0, .int .u32 0, .int .u32 0, .int .u32 0, .int .u32 0, .int .u32 0, .int .u32 0, .int .u32 0, .int .u32 0, .int .u32 0, .int .u32 0, .int .u32 0, .int .u32 0, .int .u32 0, .int .u32 0, .int .u32 0, .int .u32 0, .int .u32 0, .int .u32 0, .int .u32 0, .int .u32 0, .int .u32 0, .int .u32 0, .int .u32 0] = wv (List.replicate 64 0) := rfl
  generalize hzz : List.replicate 64 (0 : Int) = zz at hz64 hlit
  have HL := Lib.hid hlit
  have HZZ := Lib.hid hzz
  clear hlit hzz
  have q2 := size64 zz hz64
  have q3 := all_oneCell_toArray (wv_one zz)
  have q1 : (((w.alloc (.cells #[.int .u32 s.a, .int .u32 s.b, .int .u32 s.c, .int .u32 s.d, .int .u32 s.e, .int .u32 s.f, .int .u32 s.g, .int .u32 s.h] 67)).alloc (.cells #[.int .u32 0, .int .u32 0, .int .u32 0, .int .u32 0, .int .u32 0, .int .u32 0, .int .u32 0, .int .u32 0] 67)).alloc (.cells #[.int .u32 0, .int .u32 0, .int .u32 0, .int .u32 0, .int .u32 0, .int .u32 0, .int .u32 0, .int .u32 0, .int .u32 0, .int .u32 0, .int .u32 0, .int .u32 0, .int .u32 0, .int .u32 0, .int .u32 0, .int .u32 0, .int .u32 0, .int .u32 0, .int .u32 0, .int .u32 0, .int .u32 0, .int .u32 0, .int .u32 0, .int .u32 0, .int .u32 0, .int .u32 0, .int .u32 0, .int .u32 0, .int .u32 0, .int .u32 0, .int .u32 0, .int .u32 0, .int .u32 0, .int .u32 0, .int .u32 0, .int .u32 0, .int .u32 0, .int .u32 0, .int .u32 0, .int .u32 0, .int .u32 0, .int .u32 0, .int .u32 0, .int .u32 0, .int .u32 0, .int .u32 0, .int .u32 0, .int .u32 0, .int .u32 0, .int .u32 0, .int .u32 0, .int .u32 0, .int .u32 0, .int .u32 0, .int .u32 0, .int .u32 0, .int .u32 0, .int .u32 0, .int .u32 0, .int .u32 0, .int .u32 0, .int .u32 0, .int .u32 0, .int .u32 0] 78)).there (w.heap.size + 1 + 1) 0 (wv zz).toArray.size := by
    have := there64 ((w.alloc (.cells #[.int .u32 s.a, .int .u32 s.b, .int .u32 s.c, .int .u32 s.d, .int .u32 s.e, .int .u32 s.f, .int .u32 s.g, .int .u32 s.h] 67)).alloc (.cells #[.int .u32 0, .int .u32 0, .int .u32 0, .int .u32 0, .int .u32 0, .int .u32 0, .int .u32 0, .int .u32 0] 67)) zz hz64
    simpa using this
  go_enter Tryd.func53, Tryd.ntmps53
  go_upto_region 2 with (refine wpList_store_mid rfl 78 (.tmp 5) (.tmp 22) rfl (w.heap.size + 1 + 1) 0 (wv zz).toArray rfl ?hy q1 q2 q3 ?_)
  case hy => exact HL.out
  simp only [Act.put]
  generalize hW : World.setCells _ _ _ _ = W0
  have ST0 : Hid (Stand w W0 (w.heap.size + 1 + 1) s zz) := Lib.hid (by
    rw [← hW]
    have b3 : Below w.heap.size w (((w.alloc (.cells #[.int .u32 s.a, .int .u32 s.b, .int .u32 s.c, .int .u32 s.d, .int .u32 s.e, .int .u32 s.f, .int .u32 s.g, .int .u32 s.h] 67)).alloc (.cells #[.int .u32 0, .int .u32 0, .int .u32 0, .int .u32 0, .int .u32 0, .int .u32 0, .int .u32 0, .int .u32 0] 67)).alloc (.cells #[.int .u32 0, .int .u32 0, .int .u32 0, .int .u32 0, .int .u32 0, .int .u32 0, .int .u32 0, .int .u32 0, .int .u32 0, .int .u32 0, .int .u32 0, .int .u32 0, .int .u32 0, .int .u32 0, .int .u32 0, .int .u32 0, .int .u32 0, .int .u32 0, .int .u32 0, .int .u32 0, .int .u32 0, .int .u32 0, .int .u32 0, .int .u32 0, .int .u32 0, .int .u32 0, .int .u32 0, .int .u32 0, .int .u32 0, .int .u32 0, .int .u32 0, .int .u32 0, .int .u32 0, .int .u32 0, .int .u32 0, .int .u32 0, .int .u32 0, .int .u32 0, .int .u32 0, .int .u32 0, .int .u32 0, .int .u32 0, .int .u32 0, .int .u32 0, .int .u32 0, .int .u32 0, .int .u32 0, .int .u32 0, .int .u32 0, .int .u32 0, .int .u32 0, .int .u32 0, .int .u32 0, .int .u32 0, .int .u32 0, .int .u32 0, .int .u32 0, .int .u32 0, .int .u32 0, .int .u32 0, .int .u32 0, .int .u32 0, .int .u32 0, .int .u32 0] 78)) := ((bel_alloc1 _ _).alloc (by simp) _).alloc (by simp; omega) _
    refine ⟨setCells_below (by omega) _ _ b3, Blk.others (by omega) _ _ (((Blk.new w _ _).alloc _).alloc _), Blk.others (by omega) _ _ ?_, ?_, by omega⟩
    · have h := Blk.new (w.alloc (.cells #[.int .u32 s.a, .int .u32 s.b, .int .u32 s.c, .int .u32 s.d, .int .u32 s.e, .int .u32 s.f, .int .u32 s.g, .int .u32 s.h] 67)) #[.int .u32 0, .int .u32 0, .int .u32 0, .int .u32 0, .int .u32 0, .int .u32 0, .int .u32 0, .int .u32 0] 67
      simp only [World.size_alloc] at h
      exact h.alloc _
    · have h := zeros64 ((w.alloc (.cells #[.int .u32 s.a, .int .u32 s.b, .int .u32 s.c, .int .u32 s.d, .int .u32 s.e, .int .u32 s.f, .int .u32 s.g, .int .u32 s.h] 67)).alloc (.cells #[.int .u32 0, .int .u32 0, .int .u32 0, .int .u32 0, .int .u32 0, .int .u32 0, .int .u32 0, .int .u32 0] 67))
      simp only [World.size_alloc] at h
      exact h.fill (by rw [wv_len, wv_len, hz64, List.length_replicate]))
  clear hW q1 q2 q3 HL HZZ
  have hzz := Lib.hid hz64
  clear hz64
  obtain ⟨wb, hwb⟩ : ∃ wb, w.heap.size + 1 + 1 = wb := ⟨_, rfl⟩
  rw [hwb] at ST0 ⊢
  clear hwb
  go_wp2_with fail
  go_loopw [6] (fun x wr => ∃ (k : Nat) (n : Int) (zs : List Int), k ≤ 16 ∧ n = k ∧ x = .int .i64 n ∧ Hid (zs.length = 64) ∧ Hid (∀ j, j < k → zs.getD j 0 = ws.getD j 0) ∧ Hid (Stand w wr wb s zs)) (fun x _ => 16 - (intOf x).toNat)
  case atStart => exact ⟨0, 0, zz, by omega, rfl, rfl, hzz, Lib.hid fun j hj => by omega, ST0⟩
  case round =>
    clear ST0 hzz
    obtain ⟨k, n, zs, hk, hn, rfl, hz, hv, ST⟩ := hrel
    have l1 := ST.out.2.2.2.1.lt
    by_cases hlt : k < 16
    · subst hn
      have hcc := hc.out.below ST.out.1 hb
      have hb' : b < wr.heap.size := Nat.lt_of_lt_of_le hb ST.out.1.size
      have c0 := hcc (4 * k) (by have := hl.out; omega)
      have c1 := hcc (4 * k + 1) (by have := hl.out; omega)
      have c2 := hcc (4 * k + 2) (by have := hl.out; omega)
      have c3 := hcc (4 * k + 3) (by have := hl.out; omega)
      rw [← Nat.add_assoc] at c1 c2 c3
      have e0 := ST.out.2.2.2.1.cell k
      rw [wv_get zs k (by have := hz.out; omega)] at e0
      have f0 := ST.out.2.2.2.1.frozen k
      have HW := Lib.hid (word4_sched hr.out hws.out hlt)
      generalize bs.getD (4 * k) 0 = x0 at c0 HW
      generalize bs.getD (4 * k + 1) 0 = x1 at c1 HW
      generalize bs.getD (4 * k + 2) 0 = x2 at c2 HW
      generalize bs.getD (4 * k + 3) 0 = x3 at c3 HW
      generalize zs.getD k 0 = y at e0
      clear hcc
      go_wp2_with fail
      refine (rword_any b (off + 4 * k) (cap - 4 * k) x0 x1 x2 x3 wr (by omega) hb' c0 c1 c2 c3).mono ?_
      rintro e w2 ⟨rfl, m, rfl⟩
      clear c0 c1 c2 c3
      go_wp2_with fail
      go_roundw
      case rel =>
        refine ⟨k + 1, k + 1, zs.set k (word4 x0 x1 x2 x3), by omega, by omega, rfl, Lib.hid (by rw [List.length_set]; exact hz.out), Lib.hid (set_inv (m := 0) (f := fun j => ws.getD j 0) hz.out (by omega) hv.out HW.out), Lib.hid ?_⟩
        exact (ST.out.set k (word4 x0 x1 x2 x3)).dn m
      case measure => simp [intOf]; omega
    · obtain rfl : n = 16 := by omega
      obtain rfl : k = 16 := by omega
      clear hn hlt hk
      go_wp2_with fail
      go_loopw [7] (fun x wr => ∃ (t : Nat) (n : Int) (zs : List Int), 16 ≤ t ∧ t ≤ 64 ∧ n = t ∧ x = .int .i64 n ∧ Hid (zs.length = 64) ∧ Hid (∀ j, j < t → zs.getD j 0 = ws.getD j 0) ∧ Hid (Stand w wr wb s zs)) (fun x _ => 64 - (intOf x).toNat)
      case atStart => exact ⟨16, 16, zs, by omega, by omega, rfl, rfl, hz, hv, ST⟩
      case round =>
        clear hz hv ST l1
        clear zs
        obtain ⟨t, n, zs, ht16, ht, hn, rfl, hz, hv, ST⟩ := hrel
        have l1 := ST.out.2.2.2.1.lt
        by_cases hlt : t < 64
        · subst hn
          obtain ⟨k, rfl⟩ : ∃ k, t = k + 16 := ⟨t - 16, by omega⟩
          have hK := hlt
          have e1 := ST.out.2.2.2.1.cell (k + 1)
          have e14 := ST.out.2.2.2.1.cell (k + 14)
          rw [wv_get zs _ (by have := hz.out; omega), hv.out _ (by omega)] at e1 e14
          have HN := Lib.hid (hws.out.2.2 k (by omega))
          obtain ⟨x, hx⟩ : ∃ x, ws.getD k 0 = x := ⟨_, rfl⟩
          obtain ⟨z, hzz⟩ : ∃ x, ws.getD (k + 9) 0 = x := ⟨_, rfl⟩
          have HALL : Hid (∀ w', Stand w w' wb s zs → Stand w w' wb s zs ∧ w'.cell? ⟨wb, k, none⟩ = some (.int .u32 x) ∧ w'.cell? ⟨wb, k + 9, none⟩ = some (.int .u32 z) ∧ w'.cell? ⟨wb, k + 16, none⟩ = some (.int .u32 (zs.getD (k + 16) 0)) ∧ w'.frozen? ⟨wb, k + 16, none⟩ = false) := Lib.hid fun w' h => by
            refine ⟨h, ?_, ?_, ?_, h.2.2.2.1.frozen _⟩
            · rw [h.2.2.2.1.cell, wv_get zs _ (by have := hz.out; omega), hv.out _ (by omega), hx]
            · rw [h.2.2.2.1.cell, wv_get zs _ (by have := hz.out; omega), hv.out _ (by omega), hzz]
            · rw [h.2.2.2.1.cell, wv_get zs _ (by have := hz.out; omega)]
          rw [hx, hzz] at HN
          generalize ws.getD (k + 1) 0 = y at e1 HN
          generalize ws.getD (k + 14) 0 = u at e14 HN
          obtain ⟨v, hvv⟩ : ∃ v, zs.getD (k + 16) 0 = v := ⟨_, rfl⟩
          rw [hvv] at HALL
          clear hx hzz hvv
          go_wp2_with fail
          have i0 : (k : Int) + 16 < 64 := by omega
          have i1 : (k : Int) < 64 := by omega
          obtain ⟨k9, h9⟩ : ∃ j, k + 9 = j := ⟨_, rfl⟩
          have i9 : (k9 : Int) < 64 := by omega
          have wA : IntKind.i64.wrap (k : Int) = (k : Int) := by simp [IntKind.wrap, IntKind.bits, IntKind.signed]; omega
          have wB : IntKind.i64.wrap ((k : Int) + 16 - 16) = (k : Int) := by simp [IntKind.wrap, IntKind.bits, IntKind.signed]; omega
          have wC : IntKind.i64.wrap ((k : Int) + 16 - 7) = (k9 : Int) := by rw [show ((k : Int) + 16 - 7) = (k9 : Int) by omega]; simp [IntKind.wrap, IntKind.bits, IntKind.signed]; omega
          rw [h9] at HALL
          clear h9
          obtain ⟨_, e0, e9, e16, f16⟩ := HALL.out wr ST.out
          clear HALL
          refine wp_region_quiet_tail 29 (by kernel_rfl) (by kernel_rfl) ?_
          simp only [List.take_succ_cons, List.take_zero, List.drop_succ_cons, List.drop_zero]
          have p16 : (0 : Int) ≤ (k : Int) + 16 := by omega
          have t16 : ((k : Int) + 16).toNat = k + 16 := by omega
          iterate 6 (quiet_step (fail))
          quiet_step ((go_at_call 63; exact Calls.quiet_of (rror7_c y _)))
          quiet_step (fail)
          quiet_step ((go_at_call 63; exact Calls.quiet_of (rror18_c y _)))
          iterate 11 (quiet_step (fail))
          quiet_step ((go_at_call 63; exact Calls.quiet_of (rror17_c u _)))
          quiet_step (fail)
          quiet_step ((go_at_call 63; exact Calls.quiet_of (rror19_c u _)))
          iterate 6 (quiet_step (fail))
          refine wpQuiet_nil ?_
          intro _ hw'
          obtain ⟨nq, rfl⟩ := hw'
          go_wp2_with fail
          go_roundw
          case rel =>
            refine ⟨k + 16 + 1, k + 16 + 1, zs.set (k + 16) (nextW x y z u), by omega, by omega, by omega, by simp, Lib.hid (by rw [List.length_set]; exact hz.out), Lib.hid (set_inv (m := 0) (f := fun j => ws.getD j 0) hz.out (by omega) hv.out HN.out.symm), Lib.hid ?_⟩
            exact (ST.out.set (k + 16) (nextW x y z u)).dn nq
          case measure => simp [intOf]; omega
        · obtain rfl : n = 64 := by omega
          obtain rfl : t = 64 := by omega
          clear hn hlt ht ht16
          have HE := same64 hz.out hws.out.1 hv.out
          subst HE
          clear hv l1
          go_wp2_with fail
          refine (rnumbers_any _).mono ?_; rintro e w3 ⟨rfl, hb3⟩
          have ST3 := Lib.hid (ST.out.below hb3)
          clear ST hb3
          obtain ⟨ks, hks⟩ : ∃ ks, kK = ks := ⟨_, rfl⟩
          have hkl : ks.length = 64 := by rw [← hks]; rfl
          rw [hks]
          have HKS := Lib.hid hks
          clear hks
          have q1 := there64 w3 ks hkl
          have q2 := size64 ks hkl
          have q3 := all_oneCell_toArray (wv_one ks)
          go_upto_region 13 with (refine wpList_store_mid rfl 78 _ _ rfl w3.heap.size 0 (wv ks).toArray rfl rfl q1 q2 q3 ?_)
          simp only [Act.put]
          generalize hW : World.setCells _ _ _ _ = W4
          have KB4 : Hid (Blk W4 w3.heap.size (wv ks).toArray 78) := Lib.hid (by rw [← hW]; exact (zeros64 w3).fill (by rw [wv_len, wv_len, hkl, List.length_replicate]))
          have ST4 : Hid (Stand w W4 wb s zs) := Lib.hid (by rw [← hW]; exact (ST3.out.below (bel_alloc1 _ _)).others (ST3.out.2.2.2.1.lt) ST3.out.1.size _ _)
          have HKL := Lib.hid hkl
          clear hW q1 q2 q3 ST3 hkl
          obtain ⟨kb, hkb⟩ : ∃ kb, w3.heap.size = kb := ⟨_, rfl⟩
          rw [hkb] at KB4 ⊢
          clear hkb
          have c0 : W4.cell? ⟨w.heap.size, 0, none⟩ = some (.int .u32 s.a) := ST4.out.2.1.cell 0
          have c1 : W4.cell? ⟨w.heap.size, 1, none⟩ = some (.int .u32 s.b) := ST4.out.2.1.cell 1
          have c2 : W4.cell? ⟨w.heap.size, 2, none⟩ = some (.int .u32 s.c) := ST4.out.2.1.cell 2
          have c3 : W4.cell? ⟨w.heap.size, 3, none⟩ = some (.int .u32 s.d) := ST4.out.2.1.cell 3
          have c4 : W4.cell? ⟨w.heap.size, 4, none⟩ = some (.int .u32 s.e) := ST4.out.2.1.cell 4
          have c5 : W4.cell? ⟨w.heap.size, 5, none⟩ = some (.int .u32 s.f) := ST4.out.2.1.cell 5
          have c6 : W4.cell? ⟨w.heap.size, 6, none⟩ = some (.int .u32 s.g) := ST4.out.2.1.cell 6
          have c7 : W4.cell? ⟨w.heap.size, 7, none⟩ = some (.int .u32 s.h) := ST4.out.2.1.cell 7
          have lk := KB4.out.lt
          have lw := ST4.out.2.2.2.1.lt
          have ls := ST4.out.2.1.lt
          go_quiet (fail)
          clear c0 c1 c2 c3 c4 c5 c6 c7 lk lw ls
          generalize hwq : W4.drewN nq = wq
          have KBq : Hid (Blk wq kb (wv ks).toArray 78) := Lib.hid (by rw [← hwq]; exact KB4.out)
          have STq : Hid (Stand w wq wb s zs) := Lib.hid (by rw [← hwq]; exact ST4.out.dn nq)
          clear hwq KB4 ST4
          go_wp2_with fail
          go_loopw [11, 12, 13, 14, 15, 16, 17, 18, 19] (fun x0 x1 x2 x3 x4 x5 x6 x7 i wr => ∃ (t : Nat) (n a b c d e f g h : Int), t ≤ 64 ∧ n = t ∧ x0 = .int .u32 a ∧ x1 = .int .u32 b ∧ x2 = .int .u32 c ∧ x3 = .int .u32 d ∧ x4 = .int .u32 e ∧ x5 = .int .u32 f ∧ x6 = .int .u32 g ∧ x7 = .int .u32 h ∧ i = .int .i64 n ∧ Hid (R t = ⟨a, b, c, d, e, f, g, h⟩) ∧ Hid (Stand w wr wb s zs) ∧ Hid (Blk wr kb (wv ks).toArray 78)) (fun _ _ _ _ _ _ _ _ i _ => 64 - (intOf i).toNat)
          case atStart => exact ⟨0, 0, s.a, s.b, s.c, s.d, s.e, s.f, s.g, s.h, by omega, rfl, rfl, rfl, rfl, rfl, rfl, rfl, rfl, rfl, rfl, Lib.hid hR.out.1, STq, KBq⟩
          case round =>
            clear STq KBq
            obtain ⟨t, n, a1, b1, c1, d1, e1, f1, g1, h1, ht, hn, rfl, rfl, rfl, rfl, rfl, rfl, rfl, rfl, rfl, hRt, ST, KB⟩ := hrel
            by_cases hlt : t < 64
            · subst hn
              have hkc := KB.out.cell t
              rw [wv_get ks t (by have := HKL.out; omega)] at hkc
              have hwc := ST.out.2.2.2.1.cell t
              rw [wv_get zs t (by have := hz.out; omega)] at hwc
              have hRn0 := hR.out.2 t hlt
              rw [HKS.out] at hRn0
              have hRn := Lib.hid hRn0
              clear hRn0
              generalize ks.getD t 0 = kt at hkc hRn
              generalize zs.getD t 0 = wt at hwc hRn
              have lB := KB.out.lt
              have lW := ST.out.2.2.2.1.lt
              go_wp2_with fail
              refine wp_region_quiet_lit (by kernel_rfl) (by kernel_rfl) ?_
              iterate 2 (quiet_step (fail))
              quiet_step ((go_at_call 63; exact Calls.quiet_of (rror6_c e1 _)))
              quiet_step (fail)
              quiet_step ((go_at_call 63; exact Calls.quiet_of (rror11_c e1 _)))
              iterate 2 (quiet_step (fail))
              quiet_step ((go_at_call 63; exact Calls.quiet_of (rror25_c e1 _)))
              iterate 20 (quiet_step (fail))
              refine wpQuiet_nil ?_
              intro _ hw'
              obtain ⟨nq, rfl⟩ := hw'
              go_wp2_with fail
              refine (rror2_c a1 _).mono ?_; rintro e w' ⟨rfl, m1, rfl⟩
              go_wp2_with fail
              refine (rror13_c a1 _).mono ?_; rintro e w' ⟨rfl, m2, rfl⟩
              go_wp2_with fail
              refine (rror22_c a1 _).mono ?_; rintro e w' ⟨rfl, m3, rfl⟩
              go_wp2_with fail
              go_roundw
              case rel =>
                refine ⟨t + 1, t + 1, _, _, _, _, _, _, _, _, by omega, by omega, rfl, rfl, rfl, rfl, rfl, rfl, rfl, rfl, rfl, Lib.hid (by rw [hRn.out, hRt.out]; simp only [rnd, pP, qQ, nest5]), Lib.hid ?_, Lib.hid KB.out⟩
                exact ⟨⟨ST.out.1.os, ST.out.1.tape, ST.out.1.output, ST.out.1.size, ST.out.1.block⟩, ST.out.2⟩
              case measure => simp [intOf]; omega
            · obtain rfl : n = 64 := by omega
              obtain rfl : t = 64 := by omega
              clear hn hlt ht
              have cE0 : wr.cell? ⟨w.heap.size, 0, none⟩ = some (.int .u32 s.a) := ST.out.2.1.cell 0
              have cE1 : wr.cell? ⟨w.heap.size, 1, none⟩ = some (.int .u32 s.b) := ST.out.2.1.cell 1
              have cE2 : wr.cell? ⟨w.heap.size, 2, none⟩ = some (.int .u32 s.c) := ST.out.2.1.cell 2
              have cE3 : wr.cell? ⟨w.heap.size, 3, none⟩ = some (.int .u32 s.d) := ST.out.2.1.cell 3
              have cE4 : wr.cell? ⟨w.heap.size, 4, none⟩ = some (.int .u32 s.e) := ST.out.2.1.cell 4
              have cE5 : wr.cell? ⟨w.heap.size, 5, none⟩ = some (.int .u32 s.f) := ST.out.2.1.cell 5
              have cE6 : wr.cell? ⟨w.heap.size, 6, none⟩ = some (.int .u32 s.g) := ST.out.2.1.cell 6
              have cE7 : wr.cell? ⟨w.heap.size, 7, none⟩ = some (.int .u32 s.h) := ST.out.2.1.cell 7
              have ls := ST.out.2.1.lt
              have q4 : wr.there (w.heap.size + 1) 0 (wv (addS s ⟨a1, b1, c1, d1, e1, f1, g1, h1⟩).toList).toArray.size := by have := ST.out.2.2.1.there; exact this
              have q5 : (Tryd.prog.info? 67).map (·.size) = some (wv (addS s ⟨a1, b1, c1, d1, e1, f1, g1, h1⟩).toList).toArray.size := sizeT8 _ rfl
              have q6 := all_oneCell_toArray (wv_one (addS s ⟨a1, b1, c1, d1, e1, f1, g1, h1⟩).toList)
              go_wp2_with (refine wpList_store_mid rfl 67 (.tmp 4) (.tmp 190) rfl (w.heap.size + 1) 0 (wv (addS s ⟨a1, b1, c1, d1, e1, f1, g1, h1⟩).toList).toArray rfl rfl q4 q5 q6 ?_)
              have hfin : Blk (wr.setCells (w.heap.size + 1) 0 (wv (addS s ⟨a1, b1, c1, d1, e1, f1, g1, h1⟩).toList).toArray.toList) (w.heap.size + 1) (wv (addS s ⟨a1, b1, c1, d1, e1, f1, g1, h1⟩).toList).toArray 67 := ST.out.2.2.1.fill (len8 _)
              have hbel : Below w.heap.size w (wr.setCells (w.heap.size + 1) 0 (wv (addS s ⟨a1, b1, c1, d1, e1, f1, g1, h1⟩).toList).toArray.toList) := setCells_below (by omega) _ _ ST.out.1
              have hR64 := hRt.out
              clear hRt hR hws q4 q5 q6
              generalize wr.setCells (w.heap.size + 1) 0 (wv (addS s ⟨a1, b1, c1, d1, e1, f1, g1, h1⟩).toList).toArray.toList = wf at hfin hbel ⊢
              generalize hSS : addS s ⟨a1, b1, c1, d1, e1, f1, g1, h1⟩ = SS at hfin
              refine bodyPost_ret (v := .agg (wv SS.toList).toArray) (results_cell1 (a := ⟨w.heap.size + 1, 0, none⟩) rfl _ rfl (run_loadVar_mid _ (w.heap.size + 1) 0 _ (wv SS.toList) _ hfin.range Tryd.underlying67 rfl (sizeT8' _ rfl))) rfl ⟨by rw [hR64, hSS], hbel⟩
end Go.Proofs.YtllcgehfmkmcdaaDoor
namespace Go.Proofs.YtllcgehfmkmcdaaDoor
open Go.RowKit
set_option linter.unusedVariables false
set_option linter.unusedSimpArgs false

theorem rblock_blk (s : S8) (b off cap : Nat) (bs : List Int) (w : World) (hl : Hid (bs.length = 64)) (hcap : 64 ≤ cap) (hmax : cap ≤ 9223372036854775807) (hb : b < w.heap.size)
    (hc : Hid (BytesAt w b off bs)) (hr : Hid (∀ z ∈ bs, 0 ≤ z ∧ z ≤ 255)) :
    Calls Tryd.prog 53 #[.agg #[.int .u32 s.a, .int .u32 s.b, .int .u32 s.c, .int .u32 s.d, .int .u32 s.e, .int .u32 s.f, .int .u32 s.g, .int .u32 s.h], .slice (some ⟨b, off, none⟩) 64 cap] w
      fun e w' => e = .returned (.agg (wv (block s bs).toList).toArray) ∧ Below w.heap.size w w' :=
  rblock_any s b off cap bs w hl hcap hmax hb hc hr (schedL bs 48) (Lib.hid (isSched bs)) (rounds bs s) (Lib.hid ⟨rfl, fun t ht => rfl⟩)
theorem gr_fill {w : World} {b : Nat} : ∀ (vs : List Value) (o : Nat) {w1 : World}, w.grownBy w1 (some b) → w.grownBy (w1.setCells b o vs) (some b)
  | [], _, _, h => h
  | v :: l, o, _, h => gr_fill l (o + 1) (gr_set h)
theorem h0Blk (w : World) : Blk (w.alloc (.cells #[.int .u32 1779033703, .int .u32 3144134277, .int .u32 1013904242, .int .u32 2773480762, .int .u32 1359893119, .int .u32 2600822924, .int .u32 528734635, .int .u32 1541459225] 67)) w.heap.size (wv S8.h0.toList).toArray 67 := Blk.new w _ _
theorem load8 {w : World} {b : Nat} {s : S8} (h : Blk w b (wv s.toList).toArray 67) : (Instr.loadAt 67 (.pointer (some ⟨b, 0, none⟩))).run Tryd.prog w = .ok (.agg #[.int .u32 s.a, .int .u32 s.b, .int .u32 s.c, .int .u32 s.d, .int .u32 s.e, .int .u32 s.f, .int .u32 s.g, .int .u32 s.h]) w :=
  run_loadAt_mid w b 0 67 (wv s.toList) _ h.range Tryd.underlying67 rfl (sizeT8' _ rfl)
theorem pad_all {bs T : List Int} {m : Nat} (hm : m = bs.length) (hT : (bs ++ [128] ++ List.replicate (zerosN m) 0) ++ lenB m = T) : shaPad bs = T := by
  unfold shaPad
  rw [← hT, ← hm]
  simp

set_option maxRecDepth 100000 in
set_option maxHeartbeats 1000000 in
theorem rsum_any (p : Option Addr) (m cap : Nat) (bs : List Int) (w : World) (hz : Hid (SrcW w p m cap bs)) (hr : Hid (∀ z ∈ bs, 0 ≤ z ∧ z ≤ 255)) (hn : m ≤ 1000000000) (ds : List Int) (hds : Hid (IsSha bs ds)) :
    Calls Tryd.prog 44 #[.slice p m cap] w fun e w' => e = .returned (.agg (bv ds).toArray) ∧ Below w.heap.size w w' := by
  have hml := Lib.hid hz.out.len
  go_enter Tryd.func44, Tryd.ntmps44
  go_upto_region 2 with (fail)
  generalize hW : World.alloc _ _ = W1
  have T1 : Hid (Blk W1 w.heap.size (bv (List.replicate 32 0)).toArray 35) := Lib.hid (by rw [← hW]; exact (zeros32 w).alloc _)
  have S1 : Hid (Blk W1 (w.heap.size + 1) (wv S8.h0.toList).toArray 67) := Lib.hid (by
    rw [← hW]
    have h := h0Blk (w.alloc (.cells (bv (List.replicate 32 0)).toArray 35))
    simp only [World.size_alloc] at h
    exact h)
  have B1 : Hid (Below w.heap.size w W1) := Lib.hid (by rw [← hW]; exact (bel_alloc1 _ _).alloc (by simp) _)
  clear hW
  obtain ⟨sb, hsb⟩ : ∃ sb, w.heap.size + 1 = sb := ⟨_, rfl⟩
  rw [hsb] at S1 ⊢
  have l1 := S1.out.lt
  go_wp2_with fail
  refine (rpad_any p m cap bs W1 (Lib.hid (hz.out.below B1.out)) hn (lenB m) (Lib.hid (isLen m hn)) (zerosN m) (by unfold zerosN; omega) (by unfold zerosN; omega)).mono ?_
  rintro e w2 ⟨v, rfl, hO, hb2⟩
  obtain ⟨T, hTT⟩ : ∃ T, (bs ++ [128] ++ List.replicate (zerosN m) 0) ++ lenB m = T := ⟨_, rfl⟩
  rw [hTT] at hO
  have HPD := Lib.hid (pad_all hml.out hTT)
  obtain ⟨pt, ct, rfl, hsrc, hct, hct2, hfresh⟩ := own8_src hO
  obtain ⟨q2, hq4, hqp⟩ : ∃ q2, T.length = 64 * q2 ∧ 0 < q2 := by
    rw [← hTT]
    simp only [List.length_append, List.length_replicate, List.length_singleton, ← hml.out, zerosN, lenB, List.length_map, List.length_range]
    exact ⟨(m + 1 + (119 - m % 64) % 64 + 8) / 64, by omega, by omega⟩
  have hTr := Lib.hid (show ∀ z ∈ T, 0 ≤ z ∧ z ≤ 255 by rw [← hTT]; have := tail_rng (k := 0) (c := zerosN m) hr.out m; rwa [List.drop_zero] at this)
  clear hTT hO
  obtain ⟨_, ⟨rfl, h0, _⟩ | ⟨tb, toff, rfl, htb, hTb⟩⟩ := hsrc
  · omega
  have HTb := Lib.hid hTb
  have htb2 : sb < tb := by have := hfresh _ rfl; simp at this; omega
  have hct3 : ct ≤ 9223372036854775807 := by have : maxLen ≤ 9223372036854775807 := by decide
                                             omega
  rw [hq4] at hct ⊢
  have S2 := Lib.hid (S1.out.below hb2 S1.out.lt)
  have T2 := Lib.hid (T1.out.below hb2 T1.out.lt)
  have B2 := Lib.hid (B1.out.trans (hb2.mono B1.out.size))
  have hq5 := Lib.hid hq4
  clear hq4 hfresh hTb hb2 S1 T1 B1 l1
  go_wp2_with fail
  go_loopw [5] (fun x wr => ∃ j : Nat, j ≤ q2 ∧ x = .int .i64 (64 * (j : Int)) ∧ Hid (Blk wr sb (wv (blocksN S8.h0 T j).toList).toArray 67) ∧ Hid (w2.grownBy wr (some sb))) (fun x _ => 64 * q2 - (intOf x).toNat)
  case atStart => exact ⟨0, by omega, rfl, S2, Lib.hid (gr_refl _ _)⟩
  case round =>
    clear S2
    obtain ⟨j, hj, rfl, hS, hG⟩ := hrel
    by_cases hlj : j < q2
    · have hbl : tb < wr.heap.size := Nat.lt_of_lt_of_le htb hG.out.size
      obtain ⟨st, hst⟩ : ∃ st, blocksN S8.h0 T j = st := ⟨_, rfl⟩
      have HST := Lib.hid hst
      rw [hst] at hS
      have ls := hS.out.lt
      have cS0 : wr.cell? ⟨sb, 0, none⟩ = some (.int .u32 st.a) := hS.out.cell 0
      have cS1 : wr.cell? ⟨sb, 1, none⟩ = some (.int .u32 st.b) := hS.out.cell 1
      have cS2 : wr.cell? ⟨sb, 2, none⟩ = some (.int .u32 st.c) := hS.out.cell 2
      have cS3 : wr.cell? ⟨sb, 3, none⟩ = some (.int .u32 st.d) := hS.out.cell 3
      have cS4 : wr.cell? ⟨sb, 4, none⟩ = some (.int .u32 st.e) := hS.out.cell 4
      have cS5 : wr.cell? ⟨sb, 5, none⟩ = some (.int .u32 st.f) := hS.out.cell 5
      have cS6 : wr.cell? ⟨sb, 6, none⟩ = some (.int .u32 st.g) := hS.out.cell 6
      have cS7 : wr.cell? ⟨sb, 7, none⟩ = some (.int .u32 st.h) := hS.out.cell 7
      clear hst
      go_wp2_with fail
      have wS : IntKind.i64.wrap (64 * (j : Int) + 64) = 64 * (j : Int) + 64 := by rw [IntKind.wrap_i64]; omega
      have f1 : (0 : Int) ≤ 64 * (j : Int) + 64 := by omega
      have f2 : 64 * (j : Int) + 64 ≤ (ct : Int) := by omega
      have f3 : (0 : Int) ≤ 64 * (j : Int) := by omega
      have f4 : 64 * (j : Int) ≤ max (64 * (j : Int) + 64) 0 := by omega
      have f5 : ct ≠ 64 * j := by omega
      have f6 : 64 * (j : Int) ≤ 64 * (j : Int) + 64 := by omega
      have t1 : (64 * (j : Int)).toNat = 64 * j := by omega
      have t2 : (64 * (j : Int) + 64).toNat = 64 * j + 64 := by omega
      have t3 : 64 * j + 64 - 64 * j = 64 := by omega
      refine wp_region_still_tail 6 (by kernel_rfl) (by kernel_rfl) ?_
      change wpStill _ _ wr.drew _ _ _
      simp only [List.take_succ_cons, List.take_zero, List.drop_succ_cons, List.drop_zero]
      iterate 6 still_step
      refine wpStill_nil ?_
      change wpList _ _ _ _ _ wr.drew
      clear wS f1 f2 f3 f4 f5 f6 t1 t2 t3
      go_wp2_with fail
      refine (rblock_blk st tb (toff + 64 * j) (ct - 64 * j) ((T.drop (64 * j)).take 64) wr.drew (Lib.hid ?a1) (by omega) (by omega) hbl (Lib.hid ?a3) (Lib.hid ?a4)).mono ?_
      case a1 => rw [List.length_take, List.length_drop]; have := hq5.out; omega
      case a3 => exact ((gr_bytes hG.out HTb.out htb (by omega)).drop (64 * j)).take 64
      case a4 => exact fun z hz => hTr.out z (List.mem_of_mem_drop (List.mem_of_mem_take hz))
      rintro e w3 ⟨rfl, hb3⟩
      have HG3 := Lib.hid (gr_below (gr_drew hG.out) hb3)
      have HS3 := Lib.hid (show Blk w3 sb (wv st.toList).toArray 67 from (show Blk wr.drew sb _ _ from hS.out).below hb3 hS.out.lt)
      have HSS : Hid ((block st ((T.drop (64 * j)).take 64)).toList = (blocksN S8.h0 T (j + 1)).toList) := Lib.hid (by rw [← HST.out]; rfl)
      have HL8 : Hid ((block st ((T.drop (64 * j)).take 64)).toList.length = 8) := Lib.hid rfl
      clear hb3 cS0 cS1 cS2 cS3 cS4 cS5 cS6 cS7 hS hG
      generalize (block st ((T.drop (64 * j)).take 64)).toList = L8 at HSS HL8 ⊢
      have q4 : w3.there sb 0 (wv L8).toArray.size := by have := HS3.out.there; rw [show (wv L8).toArray.size = (wv st.toList).length by simp [wv, HL8.out]; rfl]; exact this
      have q5 : (Tryd.prog.info? 67).map (·.size) = some (wv L8).toArray.size := sizeT8 _ HL8.out
      have q6 := all_oneCell_toArray (wv_one L8)
      go_wp2_with (refine wpList_store_mid rfl 67 (.tmp 3) (.tmp 23) rfl sb 0 (wv L8).toArray rfl rfl q4 q5 q6 ?_)
      have hf : Blk (w3.setCells sb 0 (wv L8).toArray.toList) sb (wv L8).toArray 67 := HS3.out.fill (by simp [wv, HL8.out]; rfl)
      have hg : w2.grownBy (w3.setCells sb 0 (wv L8).toArray.toList) (some sb) := gr_fill _ _ HG3.out
      have HF := Lib.hid hf; have HG := Lib.hid hg
      clear hf hg q4 q5 q6 HS3 HG3
      go_roundw
      case rel => exact ⟨j + 1, by omega, by simp; omega, Lib.hid (by rw [← HSS.out]; exact HF.out), HG⟩
      case measure => simp [intOf]; omega
    · obtain rfl : j = q2 := by omega
      have T3 := Lib.hid (gr_blk hG.out T2.out (by omega))
      have B3 := Lib.hid (bel_gr B2.out hG.out (by omega) B2.out.size)
      obtain ⟨st, hst⟩ : ∃ st, blocksN S8.h0 T j = st := ⟨_, rfl⟩
      rw [hst] at hS
      have hd : Hid (IsBytes st ds) := Lib.hid (by
        rw [← hds.out.eq, show sha bs = bytesS (blocksN S8.h0 T j) by unfold sha blocks; rw [HPD.out, hq5.out, Nat.mul_div_cancel_left j (by omega)], hst]
        exact isBytes _)
      clear hst hG T2 B2 HPD
      have hz32 : (List.replicate 32 (0 : Int)).length = 32 := by simp
      have hlit : [.int .u8 0, .int .u8 0, .int .u8 0, .int .u8 0, .int .u8 0, .int .u8 0, .int .u8 0, .int .u8 0, .int .u8 0, .int .u8 0, .int .u8 0, .int .u8 0, .int .u8 0, .int .u8 0, .int .u8 0, .int .u8 0, .int .u8 0, .int .u8 0, .int .u8 0, .int .u8 0, .int .u8 0, .int .u8 0, .int .u8 0, .int .u8 0, .int .u8 0, .int .u8 0, .int .u8 0, .int .u8 0, .int .u8 0, .int .u8 0, .int .u8 0, .int .u8 0] = bv (List.replicate 32 0) := rfl
      have q1 : (wr.alloc (.cells #[.int .u8 0, .int .u8 0, .int .u8 0, .int .u8 0, .int .u8 0, .int .u8 0, .int .u8 0, .int .u8 0, .int .u8 0, .int .u8 0, .int .u8 0, .int .u8 0, .int .u8 0, .int .u8 0, .int .u8 0, .int .u8 0, .int .u8 0, .int .u8 0, .int .u8 0, .int .u8 0, .int .u8 0, .int .u8 0, .int .u8 0, .int .u8 0, .int .u8 0, .int .u8 0, .int .u8 0, .int .u8 0, .int .u8 0, .int .u8 0, .int .u8 0, .int .u8 0] 35)).there wr.heap.size 0 (bv (List.replicate 32 0)).toArray.size := by have := (zeros32 wr).there; simpa using this
      have hfz : Blk (wr.alloc (.cells #[.int .u8 0, .int .u8 0, .int .u8 0, .int .u8 0, .int .u8 0, .int .u8 0, .int .u8 0, .int .u8 0, .int .u8 0, .int .u8 0, .int .u8 0, .int .u8 0, .int .u8 0, .int .u8 0, .int .u8 0, .int .u8 0, .int .u8 0, .int .u8 0, .int .u8 0, .int .u8 0, .int .u8 0, .int .u8 0, .int .u8 0, .int .u8 0, .int .u8 0, .int .u8 0, .int .u8 0, .int .u8 0, .int .u8 0, .int .u8 0, .int .u8 0, .int .u8 0] 35)) wr.heap.size (bv (List.replicate 32 0)).toArray 35 := zeros32 wr
      generalize List.replicate 32 (0 : Int) = zz at hz32 hlit q1 hfz
      have HZ32 := Lib.hid hz32
      have HL := Lib.hid hlit
      have HFZ := Lib.hid hfz
      have q2 := size32 zz hz32
      have q3 := all_oneCell_toArray (bv_one zz)
      clear hlit hfz hz32
      go_upto_region 8 with (refine wpList_store_mid rfl 35 (.tmp 6) (.tmp 24) rfl wr.heap.size 0 (bv zz).toArray rfl ?hy q1 q2 q3 ?_)
      case hy => first | exact HL.out | exact congrArg (fun l => Value.agg (List.toArray l)) HL.out
      simp only [Act.put]
      generalize hW5 : World.setCells _ _ _ _ = W5
      have ZB : Hid (Blk W5 wr.heap.size (bv zz).toArray 35) := Lib.hid (by rw [← hW5]; exact HFZ.out.fill rfl)
      have SB : Hid (Blk W5 sb (wv st.toList).toArray 67) := Lib.hid (by rw [← hW5]; exact Blk.others (Nat.ne_of_lt hS.out.lt) _ _ (hS.out.alloc _))
      have TB : Hid (Blk W5 w.heap.size (bv (List.replicate 32 0)).toArray 35) := Lib.hid (by rw [← hW5]; exact Blk.others (Nat.ne_of_lt T3.out.lt) _ _ (T3.out.alloc _))
      have BB : Hid (Below w.heap.size w W5) := Lib.hid (by rw [← hW5]; exact setCells_below B3.out.size _ _ (B3.out.alloc B3.out.size _))
      clear q1 q2 q3 HL HFZ
      have hsl := hS.out.lt
      have hwl := B3.out.size
      clear hW5 hS T3 B3
      obtain ⟨db, hdb'⟩ : ∃ db, wr.heap.size = db := ⟨_, rfl⟩
      rw [hdb'] at ZB hsl hwl ⊢
      have hdb : w.heap.size ≤ db := hwl
      have hwd : w.heap.size < db := by omega
      clear hdb'
      go_wp2_with fail
      go_loopw [7] (fun x wr => ∃ (i : Nat) (n : Int) (zs : List Int), i ≤ 32 ∧ n = i ∧ x = .int .i64 n ∧ Hid (zs.length = 32) ∧ Hid (∀ j, j < i → zs.getD j 0 = ds.getD j 0) ∧ Hid (Blk wr db (bv zs).toArray 35) ∧ Hid (Blk wr sb (wv st.toList).toArray 67 ∧ Blk wr w.heap.size (bv (List.replicate 32 0)).toArray 35) ∧ Hid (Below w.heap.size w wr)) (fun x _ => 32 - (intOf x).toNat)
      case atStart => exact ⟨0, 0, zz, by omega, rfl, rfl, HZ32, Lib.hid fun j hj => by omega, ZB, Lib.hid ⟨SB.out, TB.out⟩, BB⟩
      case round =>
        clear ZB SB TB BB
        obtain ⟨i, n, zs, hi32, hn', rfl, hz, hv, HT, HS, HB⟩ := hrel
        have lT := HT.out.lt
        have lS := HS.out.1.lt
        by_cases hlt : i < 32
        · subst hn'
          obtain ⟨a, hi4, ha⟩ : ∃ a, i / 4 = a ∧ a < 8 := ⟨_, rfl, by omega⟩
          have hq4 : (i : Int) / 4 = (a : Int) := by omega
          have e1 := HS.out.1.cell a
          rw [wv_get _ a (by show a < 8; exact ha)] at e1
          obtain ⟨x, hx⟩ : ∃ x, st.toList.getD a 0 = x := ⟨_, rfl⟩
          rw [hx] at e1
          have HX := Lib.hid hx
          have e0 := HT.out.cell i
          rw [bv_get zs i (by have := hz.out; omega)] at e0
          generalize zs.getD i 0 = y at e0
          have f0 := HT.out.frozen i
          clear hx
          rcases (by omega : i % 4 = 0 ∨ i % 4 = 1 ∨ i % 4 = 2 ∨ i % 4 = 3) with hm4 | hm4 | hm4 | hm4
          · have hr4 : (i : Int) % 4 = 0 := by omega
            have HV := Lib.hid (hd.out.2 a ha 0 (by omega))
            rw [HX.out] at HV
            have HI := Lib.hid hi4
            clear hi4
            go_wp2_with fail
            go_roundw
            case rel =>
              have hi4 := HI.out
              have hb := HT.out.set i (.int .u8 (ds.getD i 0))
              rw [bv_set] at hb
              refine ⟨i + 1, i + 1, zs.set i (ds.getD i 0), by omega, by omega, rfl, Lib.hid (by rw [List.length_set]; exact hz.out), Lib.hid (set_inv32 hz.out hlt hv.out rfl), Lib.hid ?_, Lib.hid ?_, Lib.hid ?_⟩
              · have h := HV.out
                simp only [Nat.mul_zero, Nat.mul_one, Nat.reduceMul, Nat.reduceSub, Nat.sub_zero, Int.reducePow, Nat.add_zero, Nat.sub_self, Int.pow_zero, Int.ediv_one] at h
                rw [show 4 * a = i by omega] at h
                rw [h]
                exact hb
              · exact ⟨HS.out.1.other (b' := db) _ _ (by omega), HS.out.2.other (b' := db) _ _ (by omega)⟩
              · exact HB.out.setCell (p := ⟨db, i, none⟩) hdb _
            case measure => simp [intOf]; omega
          · have hr4 : (i : Int) % 4 = 1 := by omega
            have HV := Lib.hid (hd.out.2 a ha 1 (by omega))
            rw [HX.out] at HV
            have HI := Lib.hid hi4
            clear hi4
            go_wp2_with fail
            go_roundw
            case rel =>
              have hi4 := HI.out
              have hb := HT.out.set i (.int .u8 (ds.getD i 0))
              rw [bv_set] at hb
              refine ⟨i + 1, i + 1, zs.set i (ds.getD i 0), by omega, by omega, rfl, Lib.hid (by rw [List.length_set]; exact hz.out), Lib.hid (set_inv32 hz.out hlt hv.out rfl), Lib.hid ?_, Lib.hid ?_, Lib.hid ?_⟩
              · have h := HV.out
                simp only [Nat.mul_zero, Nat.mul_one, Nat.reduceMul, Nat.reduceSub, Nat.sub_zero, Int.reducePow, Nat.add_zero, Nat.sub_self, Int.pow_zero, Int.ediv_one] at h
                rw [show 4 * a + 1 = i by omega] at h
                rw [h]
                exact hb
              · exact ⟨HS.out.1.other (b' := db) _ _ (by omega), HS.out.2.other (b' := db) _ _ (by omega)⟩
              · exact HB.out.setCell (p := ⟨db, i, none⟩) hdb _
            case measure => simp [intOf]; omega
          · have hr4 : (i : Int) % 4 = 2 := by omega
            have HV := Lib.hid (hd.out.2 a ha 2 (by omega))
            rw [HX.out] at HV
            have HI := Lib.hid hi4
            clear hi4
            go_wp2_with fail
            go_roundw
            case rel =>
              have hi4 := HI.out
              have hb := HT.out.set i (.int .u8 (ds.getD i 0))
              rw [bv_set] at hb
              refine ⟨i + 1, i + 1, zs.set i (ds.getD i 0), by omega, by omega, rfl, Lib.hid (by rw [List.length_set]; exact hz.out), Lib.hid (set_inv32 hz.out hlt hv.out rfl), Lib.hid ?_, Lib.hid ?_, Lib.hid ?_⟩
              · have h := HV.out
                simp only [Nat.mul_zero, Nat.mul_one, Nat.reduceMul, Nat.reduceSub, Nat.sub_zero, Int.reducePow, Nat.add_zero, Nat.sub_self, Int.pow_zero, Int.ediv_one] at h
                rw [show 4 * a + 2 = i by omega] at h
                rw [h]
                exact hb
              · exact ⟨HS.out.1.other (b' := db) _ _ (by omega), HS.out.2.other (b' := db) _ _ (by omega)⟩
              · exact HB.out.setCell (p := ⟨db, i, none⟩) hdb _
            case measure => simp [intOf]; omega
          · have hr4 : (i : Int) % 4 = 3 := by omega
            have HV := Lib.hid (hd.out.2 a ha 3 (by omega))
            rw [HX.out] at HV
            have HI := Lib.hid hi4
            clear hi4
            go_wp2_with fail
            go_roundw
            case rel =>
              have hi4 := HI.out
              have hb := HT.out.set i (.int .u8 (ds.getD i 0))
              rw [bv_set] at hb
              refine ⟨i + 1, i + 1, zs.set i (ds.getD i 0), by omega, by omega, rfl, Lib.hid (by rw [List.length_set]; exact hz.out), Lib.hid (set_inv32 hz.out hlt hv.out rfl), Lib.hid ?_, Lib.hid ?_, Lib.hid ?_⟩
              · have h := HV.out
                simp only [Nat.mul_zero, Nat.mul_one, Nat.reduceMul, Nat.reduceSub, Nat.sub_zero, Int.reducePow, Nat.add_zero, Nat.sub_self, Int.pow_zero, Int.ediv_one] at h
                rw [show 4 * a + 3 = i by omega] at h
                rw [h]
                exact hb
              · exact ⟨HS.out.1.other (b' := db) _ _ (by omega), HS.out.2.other (b' := db) _ _ (by omega)⟩
              · exact HB.out.setCell (p := ⟨db, i, none⟩) hdb _
            case measure => simp [intOf]; omega
        · obtain rfl : n = 32 := by omega
          obtain rfl : i = 32 := by omega
          clear hn' hlt hi32
          have HE := same32 hz.out hd.out.1 hv.out
          subst HE
          have hz' := hz.out
          have q1 := HT.out.range
          have q2' := size32' zs hz'
          have q3 := size32 zs hz'
          have q4 : wr.there w.heap.size 0 (bv zs).toArray.size := by have := HS.out.2.there; simp only [bv_len, List.length_replicate] at this; simp only [List.size_toArray, bv_len, hz']; exact this
          have q5 := all_oneCell_toArray (bv_one zs)
          go_upto_region 12 with (fail)
          go_wp2_with (first
            | refine wpList_load_mid rfl 35 (.tmp 6) rfl db 0 rfl (bv zs) _ q1 Tryd.underlying35 rfl q2' ?_
            | refine wpList_store_mid rfl 35 (.tmp 2) (.tmp 41) rfl w.heap.size 0 (bv zs).toArray rfl rfl q4 q3 q5 ?_)
          refine bodyPost_ret (v := .agg (bv zs).toArray) (results_cell1 (a := ⟨w.heap.size, 0, none⟩) rfl _ rfl (run_loadVar_mid _ w.heap.size 0 _ (bv zs) _ (HS.out.2.fill (by rw [bv_len, bv_len, hz', List.length_replicate])).range Tryd.underlying35 rfl q2')) rfl ⟨rfl, setCells_below (Nat.le_refl _) _ _ HB.out⟩
end Go.Proofs.YtllcgehfmkmcdaaDoor
namespace Go.Proofs.YtllcgehfmkmcdaaDoor
open Go.RowKit
set_option linter.unusedVariables false
set_option linter.unusedSimpArgs false

set_option maxRecDepth 100000 in
set_option maxHeartbeats 2000000 in
theorem rtagged_any (s : ByteArray) (p : Option Addr) (m cap : Nat) (bs : List Int) (w : World) (hz : Hid (SrcW w p m cap bs)) (hr : Hid (∀ z ∈ bs, 0 ≤ z ∧ z ≤ 255)) (hs : s.size ≤ 100000000) (hn : m ≤ 100000000) (ts ds : List Int) (hts : Hid (IsSha (strL s) ts)) (hds : Hid (IsSha (ts ++ bs) ds)) :
    Calls Tryd.prog 34 #[.string s, .slice p m cap] w fun e w' => e = .returned (.agg (bv ds).toArray) ∧ Below w.heap.size w w' := by
  go_enter Tryd.func34, Tryd.ntmps34
  go_upto_region 1 with (fail)
  generalize hW : w.alloc _ = W1
  have T1 := Lib.hid (show Blk W1 w.heap.size (bv (List.replicate 32 0)).toArray 35 by rw [← hW]; exact zeros32 w)
  have B1 := Lib.hid (show Below w.heap.size w W1 by rw [← hW]; exact bel_alloc1 _ _)
  clear hW
  have kc := run_bytes_of_string (P := Tryd.prog) W1 9 23 5 s Tryd.underlying9 Tryd.underlying23 Tryd.underlying5
  have hcl := grownCap_ge W1 s.size 0 5
  have hcu := grownCap_le_maxLen W1 s.size 0 5 (by unfold maxLen; omega)
  have hml : maxLen ≤ 9223372036854775807 := by decide
  generalize grownCap W1 s.size 0 5 = c1 at kc hcl hcu
  go_wp2_with fail
  refine (rsum_any (some ⟨W1.heap.size, 0, none⟩) s.size c1 (strL s) _ (Lib.hid ?e1) (Lib.hid (strL_rng s)) (by omega) ts hts).mono ?_
  case e1 => exact .inl ⟨(strL_len s).symm, .inr ⟨_, 0, rfl, by simp, str_at W1 s c1 _⟩⟩
  rintro e w3 ⟨rfl, hb3⟩
  have T3 := Lib.hid (((T1.out.alloc _).drew).below hb3 (by have := T1.out.lt; simp; omega))
  have B3 := Lib.hid (((B1.out.alloc B1.out.size _).drew).trans (hb3.mono (by have := B1.out.size; simp; omega)))
  clear hb3 kc T1 B1 hcl hcu
  have ht32 : ts.length = 32 := by rw [← hts.out.eq]; exact sha_len _
  have q1 := size32' ts ht32
  have q3 := size32 ts ht32
  have q4 : (w3.alloc (.cells #[.int .u8 0, .int .u8 0, .int .u8 0, .int .u8 0, .int .u8 0, .int .u8 0, .int .u8 0, .int .u8 0, .int .u8 0, .int .u8 0, .int .u8 0, .int .u8 0, .int .u8 0, .int .u8 0, .int .u8 0, .int .u8 0, .int .u8 0, .int .u8 0, .int .u8 0, .int .u8 0, .int .u8 0, .int .u8 0, .int .u8 0, .int .u8 0, .int .u8 0, .int .u8 0, .int .u8 0, .int .u8 0, .int .u8 0, .int .u8 0, .int .u8 0, .int .u8 0] 35)).there w3.heap.size 0 (bv ts).toArray.size := by have := (zeros32 w3).there; simp only [bv_len, List.length_replicate] at this; simp only [List.size_toArray, bv_len, ht32]; exact this
  have q5 := all_oneCell_toArray (bv_one ts)
  go_upto_region 2 with (refine wpList_store_mid rfl 35 _ _ rfl w3.heap.size 0 (bv ts).toArray rfl rfl q4 q3 q5 ?_)
  simp only [Act.put]
  generalize hW4 : World.setCells _ _ _ _ = W4
  have A4 := Lib.hid (show Blk W4 w3.heap.size (bv ts).toArray 35 by rw [← hW4]; exact (zeros32 w3).fill (by rw [bv_len, bv_len, ht32, List.length_replicate]))
  have T4 := Lib.hid (show Blk W4 w.heap.size (bv (List.replicate 32 0)).toArray 35 by rw [← hW4]; exact Blk.others (Nat.ne_of_lt T3.out.lt) _ _ (T3.out.alloc _))
  have B4 := Lib.hid (show Below w.heap.size w W4 by rw [← hW4]; exact setCells_below B3.out.size _ _ (B3.out.alloc B3.out.size _))
  have la := A4.out.lt
  clear hW4 q1 q3 q4 q5 T3 B3
  obtain ⟨ab, hab⟩ : ∃ ab, w3.heap.size = ab := ⟨_, rfl⟩
  rw [hab] at A4 la ⊢
  clear hab
  have H32 := Lib.hid ht32
  have hzl := Lib.hid hz.out.len
  clear ht32
  go_wp2_with (at_builtin; refine app8 rfl (.tmp 9) (.tmp 10) rfl W4.heap.size (.slice (some ⟨W4.heap.size, 0, none⟩) 0 0) [] rfl ?f0 (some ⟨ab, 0, none⟩) 32 32 ts rfl ?f1 ?f2 ?f3 ?_)
  case f0 => exact own8_empty W4
  case f1 => exact ⟨H32.out.symm, .inr ⟨ab, 0, rfl, by simp; omega, (bytes_run A4.out).below (bel_alloc1 _ _) la⟩⟩
  case f2 => have := H32.out; simp; omega
  case f3 => simp
  intro v5 w5 ho hg
  have b5 : Below W4.heap.size W4 w5 := bel_grown8 (bel_alloc1 W4 _) (own8_empty W4) hg (by simp)
  have T5 := Lib.hid (T4.out.below b5 T4.out.lt)
  have B5 := Lib.hid (B4.out.trans (b5.mono B4.out.size))
  have O5 := Lib.hid (show Own8 w5 W4.heap.size v5 ts by simpa using ho)
  have L5 : Hid (W4.heap.size ≤ w5.heap.size) := Lib.hid b5.size
  have L6 : Hid (w.heap.size < W4.heap.size) := Lib.hid T4.out.lt
  clear b5 ho hg T4 B4 A4 la
  go_wp2_with (at_builtin; refine app8w rfl (.tmp 11) (.tmp 12) rfl W4.heap.size v5 ts rfl O5.out p m cap bs rfl (hz.out.below B5.out) ?f4 L5.out ?_)
  case f4 => have := H32.out; have := hzl.out; omega
  intro v6 w6a ho hg
  have b6 : Below W4.heap.size w5 w6a := bel_grown8 (Below.refl _ _) O5.out hg L5.out
  have T5b := Lib.hid (show Blk w6a w.heap.size _ _ from (b6.block _ L6.out).trans T5.out)
  have B5b := Lib.hid (B5.out.trans (b6.mono (Nat.le_of_lt L6.out)))
  obtain ⟨p', c', rfl, hsrc, hc1, hc2, _⟩ := own8_src ho
  have S5 := Lib.hid hsrc
  have HLL : Hid ((ts ++ bs).length ≤ 200000000) := Lib.hid (by rw [List.length_append]; have := H32.out; have := hzl.out; omega)
  clear b6 ho hg hsrc T5 B5 O5 L5 L6 hc1 hc2
  obtain ⟨LL, hLL⟩ : ∃ L, (ts ++ bs).length = L := ⟨_, rfl⟩
  rw [hLL] at S5 HLL ⊢
  clear hLL
  go_wp2_with fail
  refine (rsum_any p' LL c' (ts ++ bs) w6a (Lib.hid (.inl S5.out)) (Lib.hid ?g1) (by have := HLL.out; omega) ds hds).mono ?_
  case g1 =>
    intro z hz
    rcases List.mem_append.1 hz with hz | hz
    · rw [← hts.out.eq] at hz; exact sha_rng _ z hz
    · exact hr.out z hz
  rintro e w6 ⟨rfl, hb6⟩
  have T6 := Lib.hid (T5b.out.below hb6 T5b.out.lt)
  have B6 := Lib.hid (B5b.out.trans (hb6.mono B5b.out.size))
  clear hb6 T5b B5b
  have hd32 : ds.length = 32 := by rw [← hds.out.eq]; exact sha_len _
  have q1 := size32' ds hd32
  have q3 := size32 ds hd32
  have q4 : w6.there w.heap.size 0 (bv ds).toArray.size := by have := T6.out.there; simp only [bv_len, List.length_replicate] at this; simp only [List.size_toArray, bv_len, hd32]; exact this
  have q5 := all_oneCell_toArray (bv_one ds)
  have HD := Lib.hid hd32
  clear hd32
  go_wp2_with (refine wpList_store_mid rfl 35 _ _ rfl w.heap.size 0 (bv ds).toArray rfl rfl q4 q3 q5 ?_)
  refine bodyPost_ret (v := .agg (bv ds).toArray) (results_cell1 (a := ⟨w.heap.size, 0, none⟩) rfl _ rfl (run_loadVar_mid _ w.heap.size 0 _ (bv ds) _ (T6.out.fill (by rw [bv_len, bv_len, List.length_replicate, HD.out])).range Tryd.underlying35 rfl q1)) rfl ⟨rfl, setCells_below (Nat.le_refl _) _ _ B6.out⟩
end Go.Proofs.YtllcgehfmkmcdaaDoor
