/- Numerals written: codec.writeNumeral. -/
import Derived.Test.YthhlpkppcbillaaGreatDoorCod
import Derived.Test.YthhlpkppcbillaaGreatDoorDigPad
namespace Go.Proofs.YthhlpkppcbillaaGreatDoor
open Go.RowKit
set_option linter.unusedVariables false
set_option linter.unusedSimpArgs false

/-- blocks that are not of bytes stay as they are, and all that lies below B -/
def Kp (B : Nat) (w w' : World) : Prop := Below B w w' ∧ ∀ i c t, t ≠ 5 → Blk w i c t → Blk w' i c t
theorem Kp.refl {B : Nat} {w : World} : Kp B w w := ⟨Below.refl _ _, fun _ _ _ _ h => h⟩
theorem Kp.trans {B : Nat} {w w1 w2 : World} (h : Kp B w w1) (k : Kp B w1 w2) : Kp B w w2 := ⟨h.1.trans k.1, fun i c t n b => k.2 i c t n (h.2 i c t n b)⟩
theorem Kp.alloc {B : Nat} {w w1 : World} (h : Kp B w w1) (hB : B ≤ w1.heap.size) (o : Obj) : Kp B w (w1.alloc o) := ⟨h.1.alloc hB o, fun i c t n b => (h.2 i c t n b).alloc o⟩
theorem Kp.grown {B : Nat} {w w1 w2 : World} {v : Value} {zs : List Int} (h : Kp B w w1) (ho : Own8 w1 B v zs) (hg : w1.grownBy w2 v.ownBlock) (hB : B ≤ w1.heap.size) : Kp B w w2 := by
  refine ⟨bel_grown8 h.1 ho hg hB, fun i c t n b => ?_⟩
  have b1 := h.2 i c t n b
  have : v.ownBlock ≠ some i := by
    intro e
    rcases ho.2 with ⟨rfl, _⟩ | ⟨g, cap, cur, rfl, _, hc, _⟩
    · simp [Value.ownBlock] at e
    · simp only [Value.ownBlock, Option.some.injEq] at e
      subst e
      have := hc.symm.trans b1
      simp only [Option.some.injEq, Obj.cells.injEq] at this
      exact n this.2.1.symm
  exact (hg.block i b1.lt (fun e => this e.symm)).trans b1
theorem oneB (w : World) (x : Int) : BytesAt (w.alloc (.cells #[.int .u8 x] 5)) w.heap.size 0 [x] := fun j hj => by
  have : j = 0 := by simpa using hj
  subst this
  exact (Blk.new w #[.int .u8 x] 5).cell 0

theorem bor_all : ((List.range 256).all fun x => bits BinOp.or IntKind.u8 (x : Int) 128 == (x : Int) % 128 + 128) = true := by kernel_rfl
theorem bor128 (q : Nat) : bits BinOp.or IntKind.u8 ((q : Int) % 256) 128 = ((q % 128 + 128 : Nat) : Int) := by
  have h := List.all_eq_true.1 bor_all (q % 256) (List.mem_range.2 (by omega))
  have h2 := eq_of_beq h
  have e : ((q % 256 : Nat) : Int) = (q : Int) % 256 := by omega
  rw [← e, h2]; omega
set_option maxRecDepth 100000 in
set_option maxHeartbeats 2000000 in
theorem writeNumeral_own (u B : Nat) (v : Value) (xs : List Int) (w : World) (ho : Hid (Own8 w B v xs)) (hu : u < 9223372036854775808) (hx : Hid (xs.length + 20 ≤ 2000000000)) (hB : B ≤ w.heap.size) :
    Calls Tryz.prog 93 #[v, .int .u64 u] w fun e w' => ∃ v', e = .returned v' ∧ Own8 w' B v' (xs ++ numL u) ∧ Kp B w w' := by
  go_enter Tryz.func93, Tryz.ntmps93
  go_wp2_with fail
  go_loopw [0, 1] (fun x y wr => ∃ (q : Nat) (v : Value) (ys : List Int), v = x ∧ y = .int .u64 q ∧ q ≤ u ∧ Hid (Own8 wr B v ys) ∧ Hid (ys ++ numL q = xs ++ numL u) ∧ Hid (Kp B w wr)) (fun _ y _ => (intOf y).toNat)
  case atStart => exact ⟨u, v, xs, rfl, rfl, by omega, ho, Lib.hid rfl, Lib.hid Kp.refl⟩
  case round =>
    obtain ⟨q, v1, ys, rfl, rfl, hq, HO, HY, HK⟩ := hrel
    by_cases hlt : 128 ≤ q
    · have hql : ys.length + (numL q).length = xs.length + (numL u).length := by have := congrArg List.length HY.out; simpa using this
      go_wp2_with (at_builtin; refine app8 rfl (.tmp 7) (.tmp 11) rfl B v1 ys rfl (own8_alloc HO.out _) (some ⟨wr.heap.size, 0, none⟩) 1 1 [bits BinOp.or IntKind.u8 ((q : Int) % 256) 128] rfl ?c1 ?c2 ?c3 ?_)
      case c1 => exact ⟨rfl, .inr ⟨_, _, rfl, by simp, oneB wr _⟩⟩
      case c2 => have h1 := hx.out; have h2 := numL_pos q; have h3 := numL_len u 9 (by simpa using hu) (by omega); simp; omega
      case c3 => have := HK.out.1.size; simp; omega
      intro v2 w3 ho hg
      have HK3 := Lib.hid ((HK.out.alloc (Nat.le_trans hB HK.out.1.size) _).grown (own8_alloc HO.out _) hg (by have := HK.out.1.size; simp; omega))
      have HO3 := Lib.hid ho
      clear hg ho
      go_wp2_with fail
      refine ⟨⟨q / 128, v2, _, rfl, by simp, by omega, HO3, Lib.hid ?_, HK3⟩, ?_⟩
      · rw [bor128, List.append_assoc, ← HY.out, numL_ge (u := q) (by omega)]; rfl
      · simp only [intOf]; omega
    · go_wp2_with (at_builtin; refine app8 rfl (.tmp 15) (.tmp 18) rfl B v1 ys rfl (own8_alloc HO.out _) (some ⟨wr.heap.size, 0, none⟩) 1 1 [(q : Int)] rfl ?c1 ?c2 ?c3 ?_)
      case c1 => exact ⟨rfl, .inr ⟨_, _, rfl, by simp, oneB wr _⟩⟩
      case c2 =>
        have h1 := hx.out; have h3 := numL_len u 9 (by simpa using hu) (by omega); have h2 := numL_pos q
        have hql : ys.length + (numL q).length = xs.length + (numL u).length := by have := congrArg List.length HY.out; simpa using this
        simp; omega
      case c3 => have := HK.out.1.size; simp; omega
      intro v2 w3 ho hg
      have HK3 := Lib.hid ((HK.out.alloc (Nat.le_trans hB HK.out.1.size) _).grown (own8_alloc HO.out _) hg (by have := HK.out.1.size; simp; omega))
      have HO3 := Lib.hid ho
      clear hg ho
      go_wp2_with fail
      go_ret
      refine ⟨v2, rfl, ?_, HK3.out⟩
      rw [← HY.out, numL_lt (u := q) (by omega)]
      exact HO3.out
end Go.Proofs.YthhlpkppcbillaaGreatDoor
