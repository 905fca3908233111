/- slices.Repeat of one number, up to eight times. -/
import Derived.Test.YticaeecfhfjjeaaTarCheck
import Derived.Laws.CopyOwn
import Derived.Deep.RegionLaw
namespace Go.Proofs.Yticaeecfhfjjeaa
open Go.RowKit
set_option linter.unusedVariables false

theorem make_any (L : Nat) (h0 : 1 ≤ L) (h1 : L ≤ 8) (w : World) : (Instr.makeSlice 22 (.int .i64 L) (.int .i64 L)).run Try.prog w = .ok (.slice (some ⟨w.heap.size, 0, none⟩) L L) (w.alloc (.cells (List.replicate L (Value.int .i64 0)).toArray 3)) := by
  obtain rfl | rfl | rfl | rfl | rfl | rfl | rfl | rfl : L = 1 ∨ L = 2 ∨ L = 3 ∨ L = 4 ∨ L = 5 ∨ L = 6 ∨ L = 7 ∨ L = 8 := by omega
  all_goals kernel_rfl

theorem mul64_any (L : Nat) (h0 : 1 ≤ L) (h1 : L ≤ 8) (w : World) :
    Calls Try.prog 37 #[.int .u64 1, .int .u64 L] w fun e w' => e = .returned (.tuple #[.int .u64 0, .int .u64 L]) ∧ w = w' := by
  obtain rfl | rfl | rfl | rfl | rfl | rfl | rfl | rfl : L = 1 ∨ L = 2 ∨ L = 3 ∨ L = 4 ∨ L = 5 ∨ L = 6 ∨ L = 7 ∨ L = 8 := by omega
  all_goals
    go_enter Try.func37, Try.ntmps37
    go_wp2
    go_ret2
    exact ⟨by kernel_rfl, rfl⟩

theorem mul_any (L : Nat) (h0 : 1 ≤ L) (h1 : L ≤ 8) (w : World) :
    Calls Try.prog 32 #[.int .u64 1, .int .u64 L] w fun e w' => e = .returned (.tuple #[.int .u64 0, .int .u64 L]) ∧ w = w' := by
  go_enter Try.func32, Try.ntmps32
  go_wp2_with fail
  refine (mul64_any L h0 h1 _).mono ?_; rintro e w' ⟨rfl, rfl⟩
  go_wp2_with fail
  go_ret2
  exact ⟨rfl, rfl⟩

def filled (L k : Nat) (x : Int) : List Value := List.replicate k (.int .i64 x) ++ List.replicate (L - k) (.int .i64 0)

theorem filled_1 (L : Nat) (x : Int) (h : 1 ≤ L) : splice (List.replicate L (Value.int .i64 0)) 0 [.int .i64 x] = filled L 1 x := by
  simp [splice, filled]
theorem splice_filled (L k : Nat) (x : Int) (c : Nat) (h : k + c ≤ L) : splice (filled L k x) k (List.replicate c (.int .i64 x)) = filled L (k + c) x := by
  unfold splice filled
  rw [List.take_left' (by simp), List.drop_append, List.drop_of_length_le (by simp)]
  simp only [List.length_replicate, List.nil_append, List.drop_replicate]
  rw [← List.append_assoc, List.replicate_append_replicate, show L - k - (k + c - k) = L - (k + c) by omega]

set_option maxHeartbeats 500000 in
theorem repeat_any (x : Int) (b L : Nat) (w : World) (hb : b < w.heap.size) (hc : w.cell? ⟨b, 0, none⟩ = some (.int .i64 x)) (h0 : 1 ≤ L) (h1 : L ≤ 8) :
    Calls Try.prog 26 #[.slice (some ⟨b, 0, none⟩) 1 1, .int .i64 L] w
      fun e w' => e = .returned (.slice (some ⟨w.heap.size, 0, none⟩) L L) ∧ Below w.heap.size w w' ∧ w'.heap[w.heap.size]? = some (.cells (List.replicate L (Value.int .i64 x)).toArray 3 (0, 0)) := by
  have hmk := fun w => make_any L h0 h1 w
  have hsz : (Try.prog.info? 3).map (·.size) = some 1 := by kernel_rfl
  have hl : (L : Int) ≤ 8 := by omega
  have hl0 : (1 : Int) ≤ L := by omega
  go_enter Try.func26, Try.ntmps26
  go_wp2_with fail
  refine (mul_any L h0 h1 _).mono ?_; rintro e w' ⟨rfl, rfl⟩
  go_wp2_with (refine wpList_copy_splice rfl (.tmp 31) (.tmp 32) 22 22 rfl 3 Try.underlying22 hsz (some ⟨w.heap.size, 0, none⟩) (some ⟨b, 0, none⟩) L L 1 1 rfl rfl w.heap.size 0 (List.replicate L (.int .i64 0)) 3 ?c1 [.int .i64 x] ?c2 ?c3 ?c4 ?c5 w.heap.size w ?c6 (Nat.le_refl _) ?_)
  case c1 => exact World.alloc_heap_new _ _
  case c2 => simp [Nat.min_def]; omega
  case c3 =>
    intro j v hj
    cases j with
    | zero => cases hj; exact hc
    | succ j => simp at hj
  case c4 => simp; omega
  case c5 => intro v hv; simp at hv; subst hv; rfl
  case c6 => exact bel_alloc1 _ _
  intro w1 H1 hb1
  have HB := Lib.hid hb1; clear hb1
  go_wp2_with fail
  go_loopw [8] (fun n wr => ∃ k : Nat, 1 ≤ k ∧ k ≤ L ∧ n = .int .i64 k ∧ Hid (wr.heap[w.heap.size]? = some (.cells (filled L k x).toArray 3 (0, 0))) ∧ Hid (Below w.heap.size w wr)) (fun n _ => L - (intOf n).toNat)
  case atStart => exact ⟨1, Nat.le_refl _, h0, rfl, Lib.hid (by rw [H1.out]; rw [filled_1 L x h0]), HB⟩
  case round =>
    obtain ⟨k, hk1, hk, rfl, HF, HB⟩ := hrel
    by_cases hlt : k < L
    · have hne : ¬ L = k := by omega
      have hsl := splice_filled L k x (Nat.min k (L - k)) (by simp [Nat.min_def]; split <;> omega)
      have hc1 : (k : Int) + ((Nat.min k (L - k) : Nat) : Int) = ((k + Nat.min k (L - k) : Nat) : Int) := by omega
      have hcl : 1 ≤ Nat.min k (L - k) ∧ k + Nat.min k (L - k) ≤ L := by simp [Nat.min_def]; split <;> omega
      have HSL := Lib.hid hsl
      have HC1 := Lib.hid hc1
      clear hsl hc1
      have HN : Hid ((List.replicate (Nat.min k (L - k)) (Value.int .i64 x)).length = Nat.min k (L - k)) := Lib.hid (by simp)
      have HC : Hid (∀ j, j < k → wr.cell? ⟨w.heap.size, j, none⟩ = some (.int .i64 x)) := Lib.hid (by
        intro j hj
        simp only [World.cell?, HF.out]
        rw [show (filled L k x).toArray[j]? = (filled L k x)[j]? by simp]
        unfold filled
        rw [List.getElem?_append_left (by simp; exact hj), List.getElem?_replicate, if_pos hj]
        rfl)
      have HP : Hid (0 < (List.replicate (Nat.min k (L - k)) (Value.int .i64 x)).length → (some (⟨w.heap.size, k, none⟩ : Addr)) = some ⟨w.heap.size, k, none⟩ ∧ ∃ ad, (some (⟨w.heap.size, 0, none⟩ : Addr)) = some ad ∧ ∀ j v, (List.replicate (Nat.min k (L - k)) (Value.int .i64 x))[j]? = some v → wr.drew.cell? (ad.add j) = some v) := Lib.hid (by
        intro _
        refine ⟨rfl, _, rfl, fun j v hj => ?_⟩
        rw [List.getElem?_replicate] at hj
        split at hj
        · rename_i hlt'
          cases hj
          have := HC.out j (by have := hlt'; simp [Nat.min_def] at this; split at this <;> omega)
          rw [show (⟨w.heap.size, 0, none⟩ : Addr).add j = ⟨w.heap.size, j, none⟩ by simp [Addr.add]; omega]
          exact this
        · cases hj)
      have HFit : Hid (k + (List.replicate (Nat.min k (L - k)) (Value.int .i64 x)).length ≤ (filled L k x).length) := Lib.hid (by simp only [filled, List.length_append, List.length_replicate]; omega)
      have HO : Hid (∀ v ∈ List.replicate (Nat.min k (L - k)) (Value.int .i64 x), v.oneCell' = true) := Lib.hid (by intro v hv; rw [List.eq_of_mem_replicate hv]; rfl)
      have HG : Hid (wr.drew.heap[w.heap.size]? = some (.cells (filled L k x).toArray 3 (0, 0))) := Lib.hid HF.out
      have HBD := Lib.hid HB.out.drew
      obtain ⟨c, hcd⟩ : ∃ c, Nat.min k (L - k) = c := ⟨_, rfl⟩
      rw [hcd] at HN HP HFit HO HC1 HSL hcl
      have HCD := Lib.hid hcd; clear hcd
      have h8 : (0 : Int) ≤ (c : Int) := by omega
      have h9 : (c : Int) ≤ 8 := by omega
      have e4 : IntKind.i64.wrap ((k : Int) + (c : Int)) = ((k + c : Nat) : Int) := (IntWalk.i64_in _ (by omega)).trans (by omega)
      go_wp2_with fail
      go_region_law (refine step_copy_splice rfl (.tmp 41) (.tmp 44) 22 22 rfl 3 Try.underlying22 hsz (some ⟨w.heap.size, k, none⟩) (some ⟨w.heap.size, 0, none⟩) (L - k) (L - k) k L (by simp [Act.eval, Act.put]) (by simp [Act.eval, Act.put]) w.heap.size k (filled L k x) 3 HG.out (List.replicate c (.int .i64 x)) (HN.out.trans HCD.out.symm) (fun hz => ⟨rfl, (HP.out hz).2⟩) HFit.out HO.out w.heap.size w HBD.out (Nat.le_refl _) ?_; intro w2 HF2 HB2; rw [HSL.out] at HF2; have HB3 := Lib.hid HB2; clear HB2; rw [HN.out])
      all_goals
        clear e4
        simp [Act.put]
        go_roundw
        case rel => exact ⟨.int .i64 ((k : Int) + (c : Int)), _, _, _, _, _, _, _, _, _, _, _, _, _, ⟨k + c, by omega, by omega, by go_num, HF2, HB3⟩, rfl⟩
        case measure =>
          show L - (intOf (.int .i64 ((k : Int) + (c : Int)))).toNat < L - (intOf (.int .i64 (k : Int))).toNat
          simp [intOf]; omega
    · obtain rfl : k = L := by omega
      have HF' := Lib.hid (show filled k k x = List.replicate k (.int .i64 x) by simp [filled])
      go_wp2_with fail
      go_ret
      exact ⟨rfl, HB.out, by rw [HF.out, HF'.out]⟩
end Go.Proofs.Yticaeecfhfjjeaa
