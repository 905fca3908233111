/- digest.padding: its walk. -/
import Derived.Test.YtllcgehfmkmcdaaDoorDigPad
namespace Go.Proofs.YtllcgehfmkmcdaaDoor
open Go.RowKit
set_option linter.unusedVariables false
set_option linter.unusedSimpArgs false

/-- the bytes of a length, told without their making -/
def IsLen (n : Nat) (ls : List Int) : Prop := ls.length = 8 ∧ ∀ k, k < 8 → ls.getD k 0 = (n : Int) * 8 / 2 ^ (56 - 8 * k) % 256
theorem isLen (n : Nat) (hn : n ≤ 1000000000) : IsLen n (lenB n) := by
  refine ⟨by simp [lenB], fun k hk => ?_⟩
  unfold lenB
  rw [List.getD_eq_getElem?_getD, List.getElem?_map, List.getElem?_range hk]
  simp only [Option.map_some, Option.getD_some]
  rw [show ((n : Int) * 8 % 18446744073709551616) = (n : Int) * 8 by omega]
theorem take_len {n : Nat} {ls : List Int} (h : IsLen n ls) (k : Nat) (hk : k < 8) : ls.take (k + 1) = ls.take k ++ [(n : Int) * 8 / 2 ^ (56 - 8 * k) % 256] := by
  rw [List.take_succ_eq_append_getElem (by rw [h.1]; exact hk), ← h.2 k hk, List.getD_eq_getElem?_getD, List.getElem?_eq_getElem (by rw [h.1]; exact hk)]; rfl

theorem own8_empty (w : World) : Own8 (w.alloc (.cells #[] 5)) w.heap.size (.slice (some ⟨w.heap.size, 0, none⟩) 0 0) [] :=
  World.ownsRow_made w #[] 0 (Nat.le_refl _) (by unfold maxLen; omega) rfl
theorem own_eq {w : World} {B : Nat} {v : Value} {l : List Int} {x y : Int} (h : Own8 w B v (l ++ [x])) (e : x = y) : Own8 w B v (l ++ [y]) := by rw [← e]; exact h
theorem own_eq2 {w : World} {B : Nat} {v : Value} {p l : List Int} {x y : Int} (h : Own8 w B v (p ++ (l ++ [x]))) (e : x = y) : Own8 w B v (p ++ (l ++ [y])) := by rw [← e]; exact h
theorem one_byte (w : World) (x : Int) : BytesAt (w.alloc (.cells #[.int .u8 x] 5)) w.heap.size 0 [x] := fun j hj => by
  have : j = 0 := by simpa using hj
  subst this
  exact (Blk.new w #[.int .u8 x] 5).cell 0

set_option maxRecDepth 100000 in
set_option maxHeartbeats 4000000 in
theorem pad_any (p : Option Addr) (m cap : Nat) (rs : List Int) (n : Nat) (w : World) (hz : Hid (SrcW w p m cap rs)) (hm : m < 64) (hn : n ≤ 1000000000) (ls : List Int) (hls : Hid (IsLen n ls)) (zn : Nat) (hzn : (119 - (m : Int)) % 64 = (zn : Int)) :
    Calls Tryd.prog 42 #[.slice p m cap, .int .i64 n] w fun e w' => ∃ v, e = .returned v ∧ Own8 w' w.heap.size v ((rs ++ [128] ++ List.replicate zn 0) ++ ls) ∧ Below w.heap.size w w' := by
  have hml := Lib.hid hz.out.len
  have HZN := Lib.hid hzn; clear hzn
  have hzn64 : Hid (zn < 64) := Lib.hid (by have := HZN.out; omega)
  go_enter Tryd.func42, Tryd.ntmps42
  go_upto_region 2 with (fail)
  rw [HZN.out]
  go_wp2_with (at_builtin; refine app8w rfl (.tmp 12) (.tmp 13) rfl w.heap.size (.slice (some ⟨w.heap.size, 0, none⟩) 0 0) [] rfl ?c0 p m cap rs rfl ?c1 ?c2 ?c3 ?_)
  case c0 => exact own8_empty w
  case c1 => exact hz.out.below (bel_alloc1 _ _)
  case c2 => have := hml.out; simp; omega
  case c3 => simp
  intro v1 w1 ho hg
  have HB1 := Lib.hid (bel_grown8 (bel_alloc1 w _) (own8_empty w) hg (by simp))
  have HO1 := Lib.hid ho
  clear ho hg
  go_wp2_with (at_builtin; refine app8 rfl (.tmp 14) (.tmp 15) rfl w.heap.size v1 _ rfl (own8_alloc HO1.out _) (some ⟨w1.heap.size, 0, none⟩) 1 1 [128] rfl ?c1 ?c2 ?c3 ?_)
  case c1 => exact ⟨rfl, .inr ⟨_, _, rfl, by simp, one_byte w1 128⟩⟩
  case c2 => have := hml.out; simp; omega
  case c3 => have := HB1.out.size; simp; omega
  intro v2 w2 ho hg
  have HB2 := Lib.hid (bel_grown8 (HB1.out.alloc HB1.out.size _) (own8_alloc HO1.out _) hg (by have := HB1.out.size; simp; omega))
  have HO2 := Lib.hid ho
  clear ho hg HB1 HO1
  go_wp2_with (at_builtin; refine zer8 rfl (.tmp 17) (.tmp 18) rfl w.heap.size v2 _ rfl HO2.out ?c0 zn rfl ?c2 ?c3 ?_)
  case c0 => simp
  case c2 => have := hml.out; have := hzn64.out; simp; omega
  case c3 => exact HB2.out.size
  intro v3 w3 ho hg
  have HB3 := Lib.hid (bel_grown8 HB2.out HO2.out hg HB2.out.size)
  have HO3 := Lib.hid ho
  clear ho hg HB2 HO2
  have HL : Hid (([] ++ rs ++ [128] ++ List.replicate zn 0).length ≤ 200) := Lib.hid (by have := hml.out; have := hzn64.out; simp; omega)
  obtain ⟨pre, hpre⟩ : ∃ pre, rs ++ [128] ++ List.replicate zn 0 = pre := ⟨_, rfl⟩
  have HP := Lib.hid hpre
  have HO4 : Hid (Own8 w3 w.heap.size v3 pre) := Lib.hid (by have := HO3.out; rw [← hpre]; simpa using this)
  have HL4 : Hid (pre.length ≤ 200) := Lib.hid (by have := HL.out; rw [← hpre]; simpa using this)
  clear hpre HO3 HL
  go_wp2_with fail
  go_loopw [6, 20] (fun x i wr => ∃ (k : Nat) (v : Value), k ≤ 8 ∧ i = .int .i64 k ∧ v = x ∧ Hid (Own8 wr w.heap.size v (pre ++ ls.take k)) ∧ Hid (Below w.heap.size w wr)) (fun _ i _ => 8 - (intOf i).toNat)
  case atStart => exact ⟨0, v3, by omega, rfl, rfl, Lib.hid (by simpa using HO4.out), HB3⟩
  case round =>
    clear HO4 HB3
    obtain ⟨k, v, hk8, rfl, rfl, HO, HB⟩ := hrel
    by_cases hlt : k < 8
    · rcases (by omega : k = 0 ∨ k = 1 ∨ k = 2 ∨ k = 3 ∨ k = 4 ∨ k = 5 ∨ k = 6 ∨ k = 7) with rfl | rfl | rfl | rfl | rfl | rfl | rfl | rfl
      · have HV := Lib.hid (take_len hls.out 0 (by omega))
        go_wp2_with (at_builtin; refine app8 rfl (.tmp 23) (.tmp 32) rfl w.heap.size v _ rfl (own8_alloc HO.out _) (some ⟨wr.heap.size, 0, none⟩) 1 1 [(n : Int) * 8 / 72057594037927936] rfl ?c10 ?c20 ?c30 ?_)
        case c10 => exact ⟨rfl, .inr ⟨_, _, rfl, by simp, one_byte wr _⟩⟩
        case c20 => have := HL4.out; simp; omega
        case c30 => have := HB.out.size; simp; omega
        intro v2 w3 ho hg
        have HB3 := Lib.hid (bel_grown8 (HB.out.alloc HB.out.size _) (own8_alloc HO.out _) hg (by have := HB.out.size; simp; omega))
        have HO3 := Lib.hid ho
        clear hg ho
        go_wp2_with fail
        go_roundw
        case rel =>
          refine ⟨0 + 1, v2, by omega, rfl, rfl, Lib.hid ?_, HB3⟩
          rw [HV.out]
          refine own_eq HO3.out ?_
          simp only [Nat.reduceMul, Nat.reduceSub, Int.reducePow, Nat.mul_zero, Nat.mul_one, Nat.sub_zero, Nat.sub_self, Int.pow_zero, Int.ediv_one]
          try omega
        case measure => simp [intOf]
      · have HV := Lib.hid (take_len hls.out 1 (by omega))
        go_wp2_with (at_builtin; refine app8 rfl (.tmp 23) (.tmp 32) rfl w.heap.size v _ rfl (own8_alloc HO.out _) (some ⟨wr.heap.size, 0, none⟩) 1 1 [(n : Int) * 8 / 281474976710656] rfl ?c11 ?c21 ?c31 ?_)
        case c11 => exact ⟨rfl, .inr ⟨_, _, rfl, by simp, one_byte wr _⟩⟩
        case c21 => have := HL4.out; simp; omega
        case c31 => have := HB.out.size; simp; omega
        intro v2 w3 ho hg
        have HB3 := Lib.hid (bel_grown8 (HB.out.alloc HB.out.size _) (own8_alloc HO.out _) hg (by have := HB.out.size; simp; omega))
        have HO3 := Lib.hid ho
        clear hg ho
        go_wp2_with fail
        go_roundw
        case rel =>
          refine ⟨1 + 1, v2, by omega, rfl, rfl, Lib.hid ?_, HB3⟩
          rw [HV.out]
          refine own_eq2 HO3.out ?_
          simp only [Nat.reduceMul, Nat.reduceSub, Int.reducePow, Nat.mul_zero, Nat.mul_one, Nat.sub_zero, Nat.sub_self, Int.pow_zero, Int.ediv_one]
          try omega
        case measure => simp [intOf]
      · have HV := Lib.hid (take_len hls.out 2 (by omega))
        go_wp2_with (at_builtin; refine app8 rfl (.tmp 23) (.tmp 32) rfl w.heap.size v _ rfl (own8_alloc HO.out _) (some ⟨wr.heap.size, 0, none⟩) 1 1 [(n : Int) * 8 / 1099511627776] rfl ?c12 ?c22 ?c32 ?_)
        case c12 => exact ⟨rfl, .inr ⟨_, _, rfl, by simp, one_byte wr _⟩⟩
        case c22 => have := HL4.out; simp; omega
        case c32 => have := HB.out.size; simp; omega
        intro v2 w3 ho hg
        have HB3 := Lib.hid (bel_grown8 (HB.out.alloc HB.out.size _) (own8_alloc HO.out _) hg (by have := HB.out.size; simp; omega))
        have HO3 := Lib.hid ho
        clear hg ho
        go_wp2_with fail
        go_roundw
        case rel =>
          refine ⟨2 + 1, v2, by omega, rfl, rfl, Lib.hid ?_, HB3⟩
          rw [HV.out]
          refine own_eq2 HO3.out ?_
          simp only [Nat.reduceMul, Nat.reduceSub, Int.reducePow, Nat.mul_zero, Nat.mul_one, Nat.sub_zero, Nat.sub_self, Int.pow_zero, Int.ediv_one]
          try omega
        case measure => simp [intOf]
      · have HV := Lib.hid (take_len hls.out 3 (by omega))
        go_wp2_with (at_builtin; refine app8 rfl (.tmp 23) (.tmp 32) rfl w.heap.size v _ rfl (own8_alloc HO.out _) (some ⟨wr.heap.size, 0, none⟩) 1 1 [(n : Int) * 8 / 4294967296] rfl ?c13 ?c23 ?c33 ?_)
        case c13 => exact ⟨rfl, .inr ⟨_, _, rfl, by simp, one_byte wr _⟩⟩
        case c23 => have := HL4.out; simp; omega
        case c33 => have := HB.out.size; simp; omega
        intro v2 w3 ho hg
        have HB3 := Lib.hid (bel_grown8 (HB.out.alloc HB.out.size _) (own8_alloc HO.out _) hg (by have := HB.out.size; simp; omega))
        have HO3 := Lib.hid ho
        clear hg ho
        go_wp2_with fail
        go_roundw
        case rel =>
          refine ⟨3 + 1, v2, by omega, rfl, rfl, Lib.hid ?_, HB3⟩
          rw [HV.out]
          refine own_eq2 HO3.out ?_
          simp only [Nat.reduceMul, Nat.reduceSub, Int.reducePow, Nat.mul_zero, Nat.mul_one, Nat.sub_zero, Nat.sub_self, Int.pow_zero, Int.ediv_one]
          try omega
        case measure => simp [intOf]
      · have HV := Lib.hid (take_len hls.out 4 (by omega))
        go_wp2_with (at_builtin; refine app8 rfl (.tmp 23) (.tmp 32) rfl w.heap.size v _ rfl (own8_alloc HO.out _) (some ⟨wr.heap.size, 0, none⟩) 1 1 [(n : Int) * 8 / 16777216 % 256] rfl ?c14 ?c24 ?c34 ?_)
        case c14 => exact ⟨rfl, .inr ⟨_, _, rfl, by simp, one_byte wr _⟩⟩
        case c24 => have := HL4.out; simp; omega
        case c34 => have := HB.out.size; simp; omega
        intro v2 w3 ho hg
        have HB3 := Lib.hid (bel_grown8 (HB.out.alloc HB.out.size _) (own8_alloc HO.out _) hg (by have := HB.out.size; simp; omega))
        have HO3 := Lib.hid ho
        clear hg ho
        go_wp2_with fail
        go_roundw
        case rel =>
          refine ⟨4 + 1, v2, by omega, rfl, rfl, Lib.hid ?_, HB3⟩
          rw [HV.out]
          refine own_eq2 HO3.out ?_
          simp only [Nat.reduceMul, Nat.reduceSub, Int.reducePow, Nat.mul_zero, Nat.mul_one, Nat.sub_zero, Nat.sub_self, Int.pow_zero, Int.ediv_one]
          try omega
        case measure => simp [intOf]
      · have HV := Lib.hid (take_len hls.out 5 (by omega))
        go_wp2_with (at_builtin; refine app8 rfl (.tmp 23) (.tmp 32) rfl w.heap.size v _ rfl (own8_alloc HO.out _) (some ⟨wr.heap.size, 0, none⟩) 1 1 [(n : Int) * 8 / 65536 % 256] rfl ?c15 ?c25 ?c35 ?_)
        case c15 => exact ⟨rfl, .inr ⟨_, _, rfl, by simp, one_byte wr _⟩⟩
        case c25 => have := HL4.out; simp; omega
        case c35 => have := HB.out.size; simp; omega
        intro v2 w3 ho hg
        have HB3 := Lib.hid (bel_grown8 (HB.out.alloc HB.out.size _) (own8_alloc HO.out _) hg (by have := HB.out.size; simp; omega))
        have HO3 := Lib.hid ho
        clear hg ho
        go_wp2_with fail
        go_roundw
        case rel =>
          refine ⟨5 + 1, v2, by omega, rfl, rfl, Lib.hid ?_, HB3⟩
          rw [HV.out]
          refine own_eq2 HO3.out ?_
          simp only [Nat.reduceMul, Nat.reduceSub, Int.reducePow, Nat.mul_zero, Nat.mul_one, Nat.sub_zero, Nat.sub_self, Int.pow_zero, Int.ediv_one]
          try omega
        case measure => simp [intOf]
      · have HV := Lib.hid (take_len hls.out 6 (by omega))
        go_wp2_with (at_builtin; refine app8 rfl (.tmp 23) (.tmp 32) rfl w.heap.size v _ rfl (own8_alloc HO.out _) (some ⟨wr.heap.size, 0, none⟩) 1 1 [(n : Int) * 8 / 256 % 256] rfl ?c16 ?c26 ?c36 ?_)
        case c16 => exact ⟨rfl, .inr ⟨_, _, rfl, by simp, one_byte wr _⟩⟩
        case c26 => have := HL4.out; simp; omega
        case c36 => have := HB.out.size; simp; omega
        intro v2 w3 ho hg
        have HB3 := Lib.hid (bel_grown8 (HB.out.alloc HB.out.size _) (own8_alloc HO.out _) hg (by have := HB.out.size; simp; omega))
        have HO3 := Lib.hid ho
        clear hg ho
        go_wp2_with fail
        go_roundw
        case rel =>
          refine ⟨6 + 1, v2, by omega, rfl, rfl, Lib.hid ?_, HB3⟩
          rw [HV.out]
          refine own_eq2 HO3.out ?_
          simp only [Nat.reduceMul, Nat.reduceSub, Int.reducePow, Nat.mul_zero, Nat.mul_one, Nat.sub_zero, Nat.sub_self, Int.pow_zero, Int.ediv_one]
          try omega
        case measure => simp [intOf]
      · have HV := Lib.hid (take_len hls.out 7 (by omega))
        go_wp2_with (at_builtin; refine app8 rfl (.tmp 23) (.tmp 32) rfl w.heap.size v _ rfl (own8_alloc HO.out _) (some ⟨wr.heap.size, 0, none⟩) 1 1 [(n : Int) * 8 % 256] rfl ?c17 ?c27 ?c37 ?_)
        case c17 => exact ⟨rfl, .inr ⟨_, _, rfl, by simp, one_byte wr _⟩⟩
        case c27 => have := HL4.out; simp; omega
        case c37 => have := HB.out.size; simp; omega
        intro v2 w3 ho hg
        have HB3 := Lib.hid (bel_grown8 (HB.out.alloc HB.out.size _) (own8_alloc HO.out _) hg (by have := HB.out.size; simp; omega))
        have HO3 := Lib.hid ho
        clear hg ho
        go_wp2_with fail
        go_roundw
        case rel =>
          refine ⟨7 + 1, v2, by omega, rfl, rfl, Lib.hid ?_, HB3⟩
          rw [HV.out]
          refine own_eq2 HO3.out ?_
          simp only [Nat.reduceMul, Nat.reduceSub, Int.reducePow, Nat.mul_zero, Nat.mul_one, Nat.sub_zero, Nat.sub_self, Int.pow_zero, Int.ediv_one]
          try omega
        case measure => simp [intOf]
    · obtain rfl : k = 8 := by omega
      have ho := HO.out
      rw [List.take_of_length_le (by rw [hls.out.1]; omega)] at ho
      have HE := Lib.hid ho
      clear ho
      go_wp2_with fail
      go_ret
      exact ⟨v, rfl, by rw [HP.out]; exact HE.out, HB.out⟩
end Go.Proofs.YtllcgehfmkmcdaaDoor
