/- The reference of layer 2: the bytes with their end. -/
import Derived.Test.YtmheblpgofeafaaDoorDigPadW
namespace Go.Proofs.YtmheblpgofeafaaDoor
open Go.RowKit
set_option linter.unusedVariables false
set_option linter.unusedSimpArgs false

def lenOfV : Value → Nat
  | .slice _ n _ => n
  | _ => 0
set_option maxRecDepth 100000 in
set_option maxHeartbeats 4000000 in
theorem rpad_any (p : Option Addr) (m cap : Nat) (bs : List Int) (w : World) (hz : Hid (SrcW w p m cap bs)) (hn : m ≤ 1000000000) (ls : List Int) (hls : Hid (IsLen m ls)) (zn : Nat) (hzn : (m + 1 + zn) % 64 = 56) (hz64 : zn < 64) :
    Calls Tryd.prog 40 #[.slice p m cap] w fun e w' => ∃ v, e = .returned v ∧ Own8 w' w.heap.size v ((bs ++ [128] ++ List.replicate zn 0) ++ ls) ∧ Below w.heap.size w w' := by
  have hml := Lib.hid hz.out.len
  have HZN := Lib.hid hzn; clear hzn
  go_enter Tryd.func40, Tryd.ntmps40
  go_wp2_with (at_builtin; refine app8w rfl (.tmp 6) (.tmp 7) rfl w.heap.size (.slice (some ⟨w.heap.size, 0, none⟩) 0 0) [] rfl ?c0 p m cap bs rfl ?c1 ?c2 ?c3 ?_)
  case c0 => exact own8_empty w
  case c1 => exact hz.out.below (bel_alloc1 _ _)
  case c2 => have := hml.out; simp; omega
  case c3 => simp
  intro v1 w1 ho hg
  have HB1 := Lib.hid (bel_grown8 (bel_alloc1 w _) (own8_empty w) hg (by simp))
  have HO1 := Lib.hid ho
  clear ho hg
  go_wp2_with (at_builtin; refine app8 rfl (.tmp 8) (.tmp 9) rfl w.heap.size v1 _ rfl (own8_alloc HO1.out _) (some ⟨w1.heap.size, 0, none⟩) 1 1 [128] rfl ?c1b ?c2b ?c3b ?_)
  case c1b => exact ⟨rfl, .inr ⟨_, _, rfl, by simp, one_byte w1 128⟩⟩
  case c2b => have := hml.out; simp; omega
  case c3b => have := HB1.out.size; simp; omega
  intro v2 w2 ho hg
  have HB2 := Lib.hid (bel_grown8 (HB1.out.alloc HB1.out.size _) (own8_alloc HO1.out _) hg (by have := HB1.out.size; simp; omega))
  have HO2 : Hid (Own8 w2 w.heap.size v2 (bs ++ [128] ++ List.replicate 0 0)) := Lib.hid (by simpa using ho)
  clear ho hg HB1 HO1
  go_wp2_with fail
  go_loopw [3] (fun x wr => ∃ (k : Nat) (v : Value), k ≤ zn ∧ v = x ∧ Hid (Own8 wr w.heap.size v (bs ++ [128] ++ List.replicate k 0)) ∧ Hid (Below w.heap.size w wr)) (fun x _ => m + 1 + zn - lenOfV x)
  case atStart => exact ⟨0, v2, by omega, rfl, HO2, HB2⟩
  case round =>
    clear HO2 HB2
    obtain ⟨k, v, hk, rfl, HO, HB⟩ := hrel
    obtain ⟨pv, cv, rfl, hsrc, hcv, hcm, hfr⟩ := own8_src HO.out
    have hlen : (bs ++ [128] ++ List.replicate k 0).length = m + 1 + k := by simp [hml.out]; omega
    rw [hlen] at hcv ⊢
    have HO' := HO.out
    rw [hlen] at HO'
    have HOv := Lib.hid HO'
    have HLN := Lib.hid hlen
    clear HO' HO hsrc hfr hlen
    obtain ⟨N, hN⟩ : ∃ N, m + 1 + k = N := ⟨_, rfl⟩
    rw [hN] at HOv hcv ⊢
    by_cases hlt : k < zn
    · have htest : ((N : Int) % 64 != 56) = true := by
        have := HZN.out
        simp only [bne_iff_ne, ne_eq]
        omega
      have HN := Lib.hid hN
      clear hN
      go_wp2_with (at_builtin; refine app8 rfl (.tmp 15) (.tmp 16) rfl w.heap.size (.slice pv N cv) (bs ++ [128] ++ List.replicate k 0) rfl (own8_alloc HOv.out _) (some ⟨wr.heap.size, 0, none⟩) 1 1 [0] rfl ?d1 ?d2 ?d3 ?_)
      case d1 => exact ⟨rfl, .inr ⟨_, _, rfl, by simp, one_byte wr 0⟩⟩
      case d2 => rw [HLN.out]; simp; omega
      case d3 => have := HB.out.size; simp; omega
      intro v3 w3 ho hg
      have HB3 := Lib.hid (bel_grown8 (HB.out.alloc HB.out.size _) (own8_alloc HOv.out _) hg (by have := HB.out.size; simp; omega))
      have HO3 : Hid (Own8 w3 w.heap.size v3 (bs ++ [128] ++ List.replicate (k + 1) 0)) := Lib.hid (by
        rw [List.replicate_succ']; simpa using ho)
      clear ho hg
      go_wp2_with fail
      go_roundw
      case rel => exact ⟨k + 1, v3, by omega, rfl, HO3, HB3⟩
      case measure =>
        obtain ⟨pv3, cv3, rfl, _⟩ := own8_src HO3.out
        have h1 : (bs ++ [128] ++ List.replicate (k + 1) 0).length = m + 1 + (k + 1) := by simp [hml.out]; omega
        have h2 := HN.out
        simp [lenOfV]
        simp at h1
        omega
    · obtain rfl : k = zn := by omega
      have htest : ((N : Int) % 64 != 56) = false := by
        have := HZN.out
        simp only [bne_eq_false_iff_eq]
        omega
      have HL4 : Hid ((bs ++ [128] ++ List.replicate k 0).length ≤ 1000000200) := Lib.hid (by rw [HLN.out]; omega)
      clear hN hk hlt hcv hcm
      obtain ⟨pre, hpre⟩ : ∃ pre, bs ++ [128] ++ List.replicate k 0 = pre := ⟨_, rfl⟩
      have HP := Lib.hid hpre
      rw [hpre] at HOv HL4
      clear hpre HLN
      go_wp2_with fail
      go_loopw [3, 5] (fun x i wr => ∃ (k : Nat) (n : Int) (v : Value), k ≤ 8 ∧ n = 7 - k ∧ i = .int .i64 n ∧ v = x ∧ Hid (Own8 wr w.heap.size v (pre ++ ls.take k)) ∧ Hid (Below w.heap.size w wr)) (fun _ i _ => (intOf i + 1).toNat)
      case atStart => exact ⟨0, 7, _, by omega, by omega, rfl, rfl, Lib.hid (by simpa using HOv.out), HB⟩
      case round =>
        clear HOv HB
        obtain ⟨k, n, v, hk8, hnk, rfl, rfl, HO, HB⟩ := hrel
        by_cases hlt : k < 8
        · rcases (by omega : (k = 0 ∧ n = 7) ∨ (k = 1 ∧ n = 6) ∨ (k = 2 ∧ n = 5) ∨ (k = 3 ∧ n = 4) ∨ (k = 4 ∧ n = 3) ∨ (k = 5 ∧ n = 2) ∨ (k = 6 ∧ n = 1) ∨ (k = 7 ∧ n = 0)) with ⟨rfl, rfl⟩ | ⟨rfl, rfl⟩ | ⟨rfl, rfl⟩ | ⟨rfl, rfl⟩ | ⟨rfl, rfl⟩ | ⟨rfl, rfl⟩ | ⟨rfl, rfl⟩ | ⟨rfl, rfl⟩
          · clear hnk
            have HV := Lib.hid (take_len hls.out 0 (by omega))
            go_wp2_with (at_builtin; refine app8 rfl (.tmp 26) (.tmp 32) rfl w.heap.size v _ rfl (own8_alloc HO.out _) (some ⟨wr.heap.size, 0, none⟩) 1 1 [(m : Int) * 8 / 72057594037927936] rfl ?c10 ?c20 ?c30 ?_)
            case c10 => exact ⟨rfl, .inr ⟨_, _, rfl, by simp, one_byte wr _⟩⟩
            case c20 => have := HL4.out; simp only [List.length_append, List.length_take, List.length_cons, List.length_nil]; omega
            case c30 => have := HB.out.size; simp; omega
            intro v2 w3 ho hg
            have HB3 := Lib.hid (bel_grown8 (HB.out.alloc HB.out.size _) (own8_alloc HO.out _) hg (by have := HB.out.size; simp; omega))
            have HO3 := Lib.hid ho
            clear hg ho
            go_wp2_with fail
            go_roundw
            case rel =>
              refine ⟨0 + 1, 6, v2, by omega, by omega, rfl, rfl, Lib.hid ?_, HB3⟩
              rw [HV.out]
              refine own_eq HO3.out ?_
              simp only [Nat.reduceMul, Nat.reduceSub, Int.reducePow, Nat.mul_zero, Nat.mul_one, Nat.sub_zero, Nat.sub_self, Int.pow_zero, Int.ediv_one]
              try omega
            case measure => simp [intOf]
          · clear hnk
            have HV := Lib.hid (take_len hls.out 1 (by omega))
            go_wp2_with (at_builtin; refine app8 rfl (.tmp 26) (.tmp 32) rfl w.heap.size v _ rfl (own8_alloc HO.out _) (some ⟨wr.heap.size, 0, none⟩) 1 1 [(m : Int) * 8 / 281474976710656] rfl ?c11 ?c21 ?c31 ?_)
            case c11 => exact ⟨rfl, .inr ⟨_, _, rfl, by simp, one_byte wr _⟩⟩
            case c21 => have := HL4.out; simp only [List.length_append, List.length_take, List.length_cons, List.length_nil]; omega
            case c31 => have := HB.out.size; simp; omega
            intro v2 w3 ho hg
            have HB3 := Lib.hid (bel_grown8 (HB.out.alloc HB.out.size _) (own8_alloc HO.out _) hg (by have := HB.out.size; simp; omega))
            have HO3 := Lib.hid ho
            clear hg ho
            go_wp2_with fail
            go_roundw
            case rel =>
              refine ⟨1 + 1, 5, v2, by omega, by omega, rfl, rfl, Lib.hid ?_, HB3⟩
              rw [HV.out]
              refine own_eq2 HO3.out ?_
              simp only [Nat.reduceMul, Nat.reduceSub, Int.reducePow, Nat.mul_zero, Nat.mul_one, Nat.sub_zero, Nat.sub_self, Int.pow_zero, Int.ediv_one]
              try omega
            case measure => simp [intOf]
          · clear hnk
            have HV := Lib.hid (take_len hls.out 2 (by omega))
            go_wp2_with (at_builtin; refine app8 rfl (.tmp 26) (.tmp 32) rfl w.heap.size v _ rfl (own8_alloc HO.out _) (some ⟨wr.heap.size, 0, none⟩) 1 1 [(m : Int) * 8 / 1099511627776] rfl ?c12 ?c22 ?c32 ?_)
            case c12 => exact ⟨rfl, .inr ⟨_, _, rfl, by simp, one_byte wr _⟩⟩
            case c22 => have := HL4.out; simp only [List.length_append, List.length_take, List.length_cons, List.length_nil]; omega
            case c32 => have := HB.out.size; simp; omega
            intro v2 w3 ho hg
            have HB3 := Lib.hid (bel_grown8 (HB.out.alloc HB.out.size _) (own8_alloc HO.out _) hg (by have := HB.out.size; simp; omega))
            have HO3 := Lib.hid ho
            clear hg ho
            go_wp2_with fail
            go_roundw
            case rel =>
              refine ⟨2 + 1, 4, v2, by omega, by omega, rfl, rfl, Lib.hid ?_, HB3⟩
              rw [HV.out]
              refine own_eq2 HO3.out ?_
              simp only [Nat.reduceMul, Nat.reduceSub, Int.reducePow, Nat.mul_zero, Nat.mul_one, Nat.sub_zero, Nat.sub_self, Int.pow_zero, Int.ediv_one]
              try omega
            case measure => simp [intOf]
          · clear hnk
            have HV := Lib.hid (take_len hls.out 3 (by omega))
            go_wp2_with (at_builtin; refine app8 rfl (.tmp 26) (.tmp 32) rfl w.heap.size v _ rfl (own8_alloc HO.out _) (some ⟨wr.heap.size, 0, none⟩) 1 1 [(m : Int) * 8 / 4294967296] rfl ?c13 ?c23 ?c33 ?_)
            case c13 => exact ⟨rfl, .inr ⟨_, _, rfl, by simp, one_byte wr _⟩⟩
            case c23 => have := HL4.out; simp only [List.length_append, List.length_take, List.length_cons, List.length_nil]; omega
            case c33 => have := HB.out.size; simp; omega
            intro v2 w3 ho hg
            have HB3 := Lib.hid (bel_grown8 (HB.out.alloc HB.out.size _) (own8_alloc HO.out _) hg (by have := HB.out.size; simp; omega))
            have HO3 := Lib.hid ho
            clear hg ho
            go_wp2_with fail
            go_roundw
            case rel =>
              refine ⟨3 + 1, 3, v2, by omega, by omega, rfl, rfl, Lib.hid ?_, HB3⟩
              rw [HV.out]
              refine own_eq2 HO3.out ?_
              simp only [Nat.reduceMul, Nat.reduceSub, Int.reducePow, Nat.mul_zero, Nat.mul_one, Nat.sub_zero, Nat.sub_self, Int.pow_zero, Int.ediv_one]
              try omega
            case measure => simp [intOf]
          · clear hnk
            have HV := Lib.hid (take_len hls.out 4 (by omega))
            go_wp2_with (at_builtin; refine app8 rfl (.tmp 26) (.tmp 32) rfl w.heap.size v _ rfl (own8_alloc HO.out _) (some ⟨wr.heap.size, 0, none⟩) 1 1 [(m : Int) * 8 / 16777216 % 256] rfl ?c14 ?c24 ?c34 ?_)
            case c14 => exact ⟨rfl, .inr ⟨_, _, rfl, by simp, one_byte wr _⟩⟩
            case c24 => have := HL4.out; simp only [List.length_append, List.length_take, List.length_cons, List.length_nil]; omega
            case c34 => have := HB.out.size; simp; omega
            intro v2 w3 ho hg
            have HB3 := Lib.hid (bel_grown8 (HB.out.alloc HB.out.size _) (own8_alloc HO.out _) hg (by have := HB.out.size; simp; omega))
            have HO3 := Lib.hid ho
            clear hg ho
            go_wp2_with fail
            go_roundw
            case rel =>
              refine ⟨4 + 1, 2, v2, by omega, by omega, rfl, rfl, Lib.hid ?_, HB3⟩
              rw [HV.out]
              refine own_eq2 HO3.out ?_
              simp only [Nat.reduceMul, Nat.reduceSub, Int.reducePow, Nat.mul_zero, Nat.mul_one, Nat.sub_zero, Nat.sub_self, Int.pow_zero, Int.ediv_one]
              try omega
            case measure => simp [intOf]
          · clear hnk
            have HV := Lib.hid (take_len hls.out 5 (by omega))
            go_wp2_with (at_builtin; refine app8 rfl (.tmp 26) (.tmp 32) rfl w.heap.size v _ rfl (own8_alloc HO.out _) (some ⟨wr.heap.size, 0, none⟩) 1 1 [(m : Int) * 8 / 65536 % 256] rfl ?c15 ?c25 ?c35 ?_)
            case c15 => exact ⟨rfl, .inr ⟨_, _, rfl, by simp, one_byte wr _⟩⟩
            case c25 => have := HL4.out; simp only [List.length_append, List.length_take, List.length_cons, List.length_nil]; omega
            case c35 => have := HB.out.size; simp; omega
            intro v2 w3 ho hg
            have HB3 := Lib.hid (bel_grown8 (HB.out.alloc HB.out.size _) (own8_alloc HO.out _) hg (by have := HB.out.size; simp; omega))
            have HO3 := Lib.hid ho
            clear hg ho
            go_wp2_with fail
            go_roundw
            case rel =>
              refine ⟨5 + 1, 1, v2, by omega, by omega, rfl, rfl, Lib.hid ?_, HB3⟩
              rw [HV.out]
              refine own_eq2 HO3.out ?_
              simp only [Nat.reduceMul, Nat.reduceSub, Int.reducePow, Nat.mul_zero, Nat.mul_one, Nat.sub_zero, Nat.sub_self, Int.pow_zero, Int.ediv_one]
              try omega
            case measure => simp [intOf]
          · clear hnk
            have HV := Lib.hid (take_len hls.out 6 (by omega))
            go_wp2_with (at_builtin; refine app8 rfl (.tmp 26) (.tmp 32) rfl w.heap.size v _ rfl (own8_alloc HO.out _) (some ⟨wr.heap.size, 0, none⟩) 1 1 [(m : Int) * 8 / 256 % 256] rfl ?c16 ?c26 ?c36 ?_)
            case c16 => exact ⟨rfl, .inr ⟨_, _, rfl, by simp, one_byte wr _⟩⟩
            case c26 => have := HL4.out; simp only [List.length_append, List.length_take, List.length_cons, List.length_nil]; omega
            case c36 => have := HB.out.size; simp; omega
            intro v2 w3 ho hg
            have HB3 := Lib.hid (bel_grown8 (HB.out.alloc HB.out.size _) (own8_alloc HO.out _) hg (by have := HB.out.size; simp; omega))
            have HO3 := Lib.hid ho
            clear hg ho
            go_wp2_with fail
            go_roundw
            case rel =>
              refine ⟨6 + 1, 0, v2, by omega, by omega, rfl, rfl, Lib.hid ?_, HB3⟩
              rw [HV.out]
              refine own_eq2 HO3.out ?_
              simp only [Nat.reduceMul, Nat.reduceSub, Int.reducePow, Nat.mul_zero, Nat.mul_one, Nat.sub_zero, Nat.sub_self, Int.pow_zero, Int.ediv_one]
              try omega
            case measure => simp [intOf]
          · clear hnk
            have HV := Lib.hid (take_len hls.out 7 (by omega))
            go_wp2_with (at_builtin; refine app8 rfl (.tmp 26) (.tmp 32) rfl w.heap.size v _ rfl (own8_alloc HO.out _) (some ⟨wr.heap.size, 0, none⟩) 1 1 [(m : Int) * 8 % 256] rfl ?c17 ?c27 ?c37 ?_)
            case c17 => exact ⟨rfl, .inr ⟨_, _, rfl, by simp, one_byte wr _⟩⟩
            case c27 => have := HL4.out; simp only [List.length_append, List.length_take, List.length_cons, List.length_nil]; omega
            case c37 => have := HB.out.size; simp; omega
            intro v2 w3 ho hg
            have HB3 := Lib.hid (bel_grown8 (HB.out.alloc HB.out.size _) (own8_alloc HO.out _) hg (by have := HB.out.size; simp; omega))
            have HO3 := Lib.hid ho
            clear hg ho
            go_wp2_with fail
            go_roundw
            case rel =>
              refine ⟨7 + 1, -1, v2, by omega, by omega, rfl, rfl, Lib.hid ?_, HB3⟩
              rw [HV.out]
              refine own_eq2 HO3.out ?_
              simp only [Nat.reduceMul, Nat.reduceSub, Int.reducePow, Nat.mul_zero, Nat.mul_one, Nat.sub_zero, Nat.sub_self, Int.pow_zero, Int.ediv_one]
              try omega
            case measure => simp [intOf]
        · obtain rfl : k = 8 := by omega
          obtain rfl : n = -1 := by omega
          have ho := HO.out
          rw [List.take_of_length_le (by rw [hls.out.1]; omega)] at ho
          have HE := Lib.hid ho
          clear ho
          go_wp2_with fail
          go_ret
          exact ⟨v, rfl, by rw [HP.out]; exact HE.out, HB.out⟩
end Go.Proofs.YtmheblpgofeafaaDoor
