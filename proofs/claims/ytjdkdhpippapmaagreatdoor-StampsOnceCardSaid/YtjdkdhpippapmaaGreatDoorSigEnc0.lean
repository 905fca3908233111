/- Two elements and a text encoded by codec.Encode itself; points. -/
import Derived.Test.YtjdkdhpippapmaaGreatDoorSigVf
namespace Go.Proofs.YtjdkdhpippapmaaGreatDoor
open Go.RowKit
set_option linter.unusedVariables false
set_option linter.unusedSimpArgs false

theorem enc3 (a b : Int) (bs : List Int) (st : ByteArray) (w : World) (hst : strB bs = st) (ha : 0 ≤ a ∧ a < 2147483579) (hb : 0 ≤ b ∧ b < 2147483579) (hs : Hid (txOk bs)) (N : Nat) (hN : w.heap.size = N) :
    Calls Tryz.prog 23 #[.agg #[.int .i64 3, .int .i64 0, .string ⟨#[]⟩, .slice (some ⟨N, 0, none⟩) 3 3]]
      (w.alloc (.cells #[.int .i64 1, .int .i64 a, .string ⟨#[]⟩, .slice none 0 0, .int .i64 1, .int .i64 b, .string ⟨#[]⟩, .slice none 0 0, .int .i64 2, .int .i64 0, .string st, .slice none 0 0] 53))
      fun e w' => ∃ v', e = .returned (.tuple #[v', .int .i64 0]) ∧ Own8 w' w.heap.size v' (encL [.int a, .int b, .text bs]) ∧ Below w.heap.size w w' := by
  subst hN
  subst hst
  have hB := Blk.new w #[.int .i64 1, .int .i64 a, .string ⟨#[]⟩, .slice none 0 0, .int .i64 1, .int .i64 b, .string ⟨#[]⟩, .slice none 0 0, .int .i64 2, .int .i64 0, .string (strB bs), .slice none 0 0] 53
  have hb1 := bel_alloc1 w (.cells #[.int .i64 1, .int .i64 a, .string ⟨#[]⟩, .slice none 0 0, .int .i64 1, .int .i64 b, .string ⟨#[]⟩, .slice none 0 0, .int .i64 2, .int .i64 0, .string (strB bs), .slice none 0 0] 53)
  refine (encode_list [.int a, .int b, .text bs] w.heap.size 0 3 3 _ (Lib.hid rfl) (by omega) (Lib.hid (ok3 ha hb hs.out)) hB.lt (Lib.hid ?_) (Lib.hid (by rw [lenA3]; have := hs.out.1; omega))).mono ?_
  · intro k hk
    have hk' : k < 3 := hk
    rcases (by omega : k = 0 ∨ k = 1 ∨ k = 2) with rfl | rfl | rfl
    · exact ⟨hB.cell 0, hB.cell 1, hB.cell 2, hB.cell 3⟩
    · exact ⟨hB.cell 4, hB.cell 5, hB.cell 6, hB.cell 7⟩
    · exact ⟨hB.cell 8, hB.cell 9, hB.cell 10, hB.cell 11⟩
  · rintro e w' ⟨v', rfl, h1, h2⟩
    exact ⟨v', rfl, own8_mono h1 hb1.size, bel_trans hb1 h2⟩
structure IsPt (key e s pt : Int) : Prop where
  eq : ptZ key e s = pt
theorem isPt (key e s : Int) : ∃ pt, IsPt key e s pt := ⟨_, ⟨rfl⟩⟩
end Go.Proofs.YtjdkdhpippapmaaGreatDoor
