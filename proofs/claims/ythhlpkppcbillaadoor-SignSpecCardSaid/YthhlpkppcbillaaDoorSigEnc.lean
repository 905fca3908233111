/- Two elements and a text encoded by codec.Encode itself; points. -/
import Derived.Test.YthhlpkppcbillaaDoorSigSign
namespace Go.Proofs.YthhlpkppcbillaaDoor
open Go.RowKit
set_option linter.unusedVariables false
set_option linter.unusedSimpArgs false

theorem enc3 (a b : Int) (bs : List Int) (st : ByteArray) (w : World) (hst : strB bs = st) (ha : 0 ≤ a ∧ a < 2147483579) (hb : 0 ≤ b ∧ b < 2147483579) (hs : Hid (txOk bs)) (N : Nat) (hN : w.heap.size = N) :
    Calls Tryd.prog 19 #[.agg #[.int .i64 3, .int .i64 0, .string ⟨#[]⟩, .slice (some ⟨N, 0, none⟩) 3 3]]
      (w.alloc (.cells #[.int .i64 1, .int .i64 a, .string ⟨#[]⟩, .slice none 0 0, .int .i64 1, .int .i64 b, .string ⟨#[]⟩, .slice none 0 0, .int .i64 2, .int .i64 0, .string st, .slice none 0 0] 41))
      fun e w' => ∃ v', e = .returned (.tuple #[v', .int .i64 0]) ∧ Own8 w' w.heap.size v' (encL [.int a, .int b, .text bs]) ∧ Below w.heap.size w w' := by
  subst hN
  subst hst
  have hB := Blk.new w #[.int .i64 1, .int .i64 a, .string ⟨#[]⟩, .slice none 0 0, .int .i64 1, .int .i64 b, .string ⟨#[]⟩, .slice none 0 0, .int .i64 2, .int .i64 0, .string (strB bs), .slice none 0 0] 41
  have hb1 := bel_alloc1 w (.cells #[.int .i64 1, .int .i64 a, .string ⟨#[]⟩, .slice none 0 0, .int .i64 1, .int .i64 b, .string ⟨#[]⟩, .slice none 0 0, .int .i64 2, .int .i64 0, .string (strB bs), .slice none 0 0] 41)
  refine (encode_list [.int a, .int b, .text bs] w.heap.size 0 3 3 _ (Lib.hid rfl) (by omega) (Lib.hid (ok3 ha hb hs.out)) hB.lt (Lib.hid ?_) (Lib.hid (by rw [lenA3]; have := hs.out.1; omega))).mono ?_
  · intro k hk
    have hk' : k < 3 := hk
    rcases (by omega : k = 0 ∨ k = 1 ∨ k = 2) with rfl | rfl | rfl
    · exact ⟨hB.cell 0, hB.cell 1, hB.cell 2, hB.cell 3⟩
    · exact ⟨hB.cell 4, hB.cell 5, hB.cell 6, hB.cell 7⟩
    · exact ⟨hB.cell 8, hB.cell 9, hB.cell 10, hB.cell 11⟩
  · rintro e w' ⟨v', rfl, h1, h2⟩
    exact ⟨v', rfl, own8_mono h1 hb1.size, bel_trans hb1 h2⟩
structure IsPt (key e s pt : Int) : Prop where
  eq : ptZ key e s = pt
theorem isPt (key e s : Int) : ∃ pt, IsPt key e s pt := ⟨_, ⟨rfl⟩⟩
set_option maxRecDepth 100000 in
set_option maxHeartbeats 2000000 in
theorem lpoint_is (key e s pt : Int) (w : World) (hk : Hid (elB key = true)) (e0 : 0 ≤ e) (e1 : e < 1073741789) (h : Hid (IsPt key e s pt)) :
    Calls Tryd.prog 18 #[.int .i64 key, .agg #[.int .i64 e, .int .i64 s]] w fun r w' => r = .returned (.tuple #[.int .i64 pt, .bool true]) ∧ Below w.heap.size w w' := by
  have h1 := h.out.eq
  obtain ⟨l, hl⟩ := isPw 4 s
  obtain ⟨q, hq⟩ := isPw key (-e)
  have el := powZ_el elB_4 s
  have eq := powZ_el hk.out (-e)
  unfold ptZ at h1
  rw [hl.eq, hq.eq] at h1
  rw [hl.eq] at el
  rw [hq.eq] at eq
  have HL := Lib.hid hl; have HQ := Lib.hid hq; have HPT := Lib.hid (show IsMl l q pt from ⟨h1⟩); have HEL := Lib.hid el; have HEQ := Lib.hid eq
  clear h1 hl hq el eq
  have V1 := Lib.hid (Blk.new w #[.int .i64 e, .int .i64 s] 24)
  have B1 := Lib.hid (bel_alloc1 w (.cells #[.int .i64 e, .int .i64 s] 24))
  go_enter Tryd.func18, Tryd.ntmps18
  go_wp2_with (first
    | (go_at_call 16; ((with_reducible refine (pow_is 4 s l _ HL (Lib.hid pe4)).mono ?_); rintro r u2 ⟨rfl, j2⟩; have V2 := V1.out.below j2 V1.out.lt; have q0 := V2.cell 0; have B2 := Lib.hid (bel_trans B1.out j2); clear j2))
    | (go_at_call 16; ((with_reducible refine (pow_is key (-e) q _ HQ (Lib.hid (pe_el hk.out))).mono ?_); rintro r u3 ⟨rfl, j3⟩; have B3 := Lib.hid (bel_trans B2.out j3); clear j3 q0 V2))
    | (go_at_call 43; ((with_reducible refine (mul_is l q pt _ HPT HEL.out HEQ.out).mono ?_); rintro r u4 ⟨rfl, j4⟩; have B4 := Lib.hid (bel_trans B3.out j4); clear j4)))
  go_ret2
  exact ⟨rfl, B4.out⟩
end Go.Proofs.YthhlpkppcbillaaDoor
