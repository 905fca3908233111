/- Package elgamal: the iterator over the ciphers of a letter. -/
import Derived.RangeFuncNested
import Derived.RangeFuncBound
import Derived.RangeFuncCalls
import Derived.RangeFuncLeaves
import Derived.Shelf.Abstract
import Derived.Shelf.RegionOpen
import Derived.OwnWalkIn
import Derived.TacticsInMore
import Derived.LoopNIn
import Derived.LoopIn
import Derived.Test.YtbmeljkdemdloaaElg
namespace Go.Proofs.Ytbmeljkdemdloaa
open Go.RowKit Go.Shelf
set_option linter.unusedVariables false
attribute [local go_sem] Oper.semAt_some

/-- an index and a cipher -/
abbrev Cip := Fin 3 × Int × Int
abbrev cEnc (x : Cip) : Array Value := #[.int .i64 (x.1.val : Int), .agg #[.int .i64 x.2.1, .int .i64 x.2.2]]
/-- a letter's six numbers as a value -/
abbrev sealedV (a0 b0 a1 b1 a2 b2 : Int) : Value := .agg #[.int .i64 a0, .int .i64 b0, .int .i64 a1, .int .i64 b1, .int .i64 a2, .int .i64 b2]

set_option maxHeartbeats 400000 in
theorem ciphers_any (a0 b0 a1 b1 a2 b2 : Int) (b : Nat) (w : World) (hb : w.heap.size = b) :
    Calls Try.prog 48 #[sealedV a0 b0 a1 b1 a2 b2] w
      fun e w' => e = .returned (.func (.func 58) #[] #[.pointer (some ⟨b, 0, none⟩)]) ∧ w.alloc (.cells #[.int .i64 a0, .int .i64 b0, .int .i64 a1, .int .i64 b1, .int .i64 a2, .int .i64 b2] 34) = w' := by
  subst hb
  go_enter Try.func48, Try.ntmps48
  go_wp2
  go_ret
  exact ⟨rfl, rfl⟩

/-- six cells of a letter in a block -/
def SixAt (w : World) (b : Nat) (a0 b0 a1 b1 a2 b2 : Int) : Prop :=
  w.cell? ⟨b, 0, none⟩ = some (.int .i64 a0) ∧ w.cell? ⟨b, 1, none⟩ = some (.int .i64 b0) ∧ w.cell? ⟨b, 2, none⟩ = some (.int .i64 a1) ∧ w.cell? ⟨b, 3, none⟩ = some (.int .i64 b1) ∧ w.cell? ⟨b, 4, none⟩ = some (.int .i64 a2) ∧ w.cell? ⟨b, 5, none⟩ = some (.int .i64 b2)
theorem SixAt.below {w w' : World} {n b : Nat} {a0 b0 a1 b1 a2 b2 : Int} (h : SixAt w b a0 b0 a1 b1 a2 b2) (k : Below n w w') (hb : b < n) : SixAt w' b a0 b0 a1 b1 a2 b2 :=
  ⟨(k.cell (p := ⟨b, 0, none⟩) hb).trans h.1, (k.cell (p := ⟨b, 1, none⟩) hb).trans h.2.1, (k.cell (p := ⟨b, 2, none⟩) hb).trans h.2.2.1, (k.cell (p := ⟨b, 3, none⟩) hb).trans h.2.2.2.1, (k.cell (p := ⟨b, 4, none⟩) hb).trans h.2.2.2.2.1, (k.cell (p := ⟨b, 5, none⟩) hb).trans h.2.2.2.2.2⟩
theorem sixAt_new (w : World) (t : TypeId) (a0 b0 a1 b1 a2 b2 : Int) : SixAt (w.alloc (.cells #[.int .i64 a0, .int .i64 b0, .int .i64 a1, .int .i64 b1, .int .i64 a2, .int .i64 b2] t)) w.heap.size a0 b0 a1 b1 a2 b2 := by
  refine ⟨?_, ?_, ?_, ?_, ?_, ?_⟩ <;> simp

set_option maxRecDepth 100000 in
set_option maxHeartbeats 1000000 in
theorem ciphers_stops (a0 b0 a1 b1 a2 b2 : Int) (m : Nat) (hm : 1 ≤ m) (b : Nat) (w : World) (hb : b < w.heap.size) (hc : SixAt w b a0 b0 a1 b1 a2 b2) :
    SeqStopsK Fence.wide m Try.prog 58 #[.pointer (some ⟨b, 0, none⟩)] cEnc KeepsWalks
      (fun xs => xs = [(0, a0, b0), (1, a1, b1), (2, a2, b2)]) (fun pre => pre <+: [(0, a0, b0), (1, a1, b1), (2, a2, b2)]) 3 w := fun l J Jx W hW hJ hJx hY h0 => by
  obtain ⟨c0, c1, c2, c3, c4, c5⟩ := hc.below hW hb
  clear hc
  have i0 : ∀ w, (Instr.index 34 (sealedV a0 b0 a1 b1 a2 b2) (.int .i64 0)).run Try.prog w = .ok (.agg #[.int .i64 a0, .int .i64 b0]) w := fun _ => by kernel_rfl
  have i1 : ∀ w, (Instr.index 34 (sealedV a0 b0 a1 b1 a2 b2) (.int .i64 1)).run Try.prog w = .ok (.agg #[.int .i64 a1, .int .i64 b1]) w := fun _ => by kernel_rfl
  have i2 : ∀ w, (Instr.index 34 (sealedV a0 b0 a1 b1 a2 b2) (.int .i64 2)).run Try.prog w = .ok (.agg #[.int .i64 a2, .int .i64 b2]) w := fun _ => by kernel_rfl
  refine callsIn_of_wp Try.func58 rfl trivial ?_ rfl
  simp only [Try.ntmps58, List.size_toArray, List.length_cons, List.length_nil, Nat.reduceAdd, Nat.reduceSub, Array.replicate_succ, Array.replicate_zero, List.push_toArray, List.append_toArray, List.nil_append, List.cons_append]
  gi_wp2
  gi_loopw [6] (fun i wr => (i = .int .i64 0 ∧ J [] wr) ∨ (i = .int .i64 1 ∧ J [(0, a0, b0)] wr) ∨ (i = .int .i64 2 ∧ J [(0, a0, b0), (1, a1, b1)] wr) ∨ (i = .int .i64 3 ∧ J [(0, a0, b0), (1, a1, b1), (2, a2, b2)] wr)) (fun i _ => (3 - intOf i).toNat)
  case atStart => exact .inl ⟨rfl, h0⟩
  case round =>
    rcases hrel with ⟨rfl, hj⟩ | ⟨rfl, hj⟩ | ⟨rfl, hj⟩ | ⟨rfl, hj⟩
    · have hj' := hJ _ _ _ _ hj (World.grownBy_alloc wr (.cells #[.int .i64 a0, .int .i64 b0] 32) none) (fun r e => by cases e)
      obtain ⟨fn, tmps, assign, body, hy0, hR⟩ := hY _ (0, a0, b0) _ hj' (by simp)
      have hy : (Instr.yield l #[.int .i64 0, .agg #[.int .i64 a0, .int .i64 b0]]).run Try.prog (wr.alloc (.cells #[.int .i64 a0, .int .i64 b0] 32)) = .ok (.round l fn tmps assign body) (wr.alloc (.cells #[.int .i64 a0, .int .i64 b0] 32)) := hy0
      clear hy0
      gi_wp2
      refine hR.mono ?_
      rintro e W3 (⟨rfl, hJ3, _⟩ | ⟨rfl, hJx3⟩)
      · gi_wp2
        go_roundw
        case rel => exact .inr (.inl ⟨rfl, hJ3⟩)
        case measure => simp [intOf]
      · gi_wp2
        refine bodyPost_ret (results_none rfl _ _ _) rfl ?_
        exact ⟨⟨_, rfl⟩, .inr ⟨_, ⟨[(1, a1, b1), (2, a2, b2)], rfl⟩, hJx3⟩⟩
    · have hj' := hJ _ _ _ _ hj (World.grownBy_alloc wr (.cells #[.int .i64 a1, .int .i64 b1] 32) none) (fun r e => by cases e)
      obtain ⟨fn, tmps, assign, body, hy0, hR⟩ := hY _ (1, a1, b1) _ hj' (by simp)
      have hy : (Instr.yield l #[.int .i64 1, .agg #[.int .i64 a1, .int .i64 b1]]).run Try.prog (wr.alloc (.cells #[.int .i64 a1, .int .i64 b1] 32)) = .ok (.round l fn tmps assign body) (wr.alloc (.cells #[.int .i64 a1, .int .i64 b1] 32)) := hy0
      clear hy0
      gi_wp2
      refine hR.mono ?_
      rintro e W3 (⟨rfl, hJ3, _⟩ | ⟨rfl, hJx3⟩)
      · gi_wp2
        go_roundw
        case rel => exact .inr (.inr (.inl ⟨rfl, hJ3⟩))
        case measure => simp [intOf]
      · gi_wp2
        refine bodyPost_ret (results_none rfl _ _ _) rfl ?_
        exact ⟨⟨_, rfl⟩, .inr ⟨_, ⟨[(2, a2, b2)], rfl⟩, hJx3⟩⟩
    · have hj' := hJ _ _ _ _ hj (World.grownBy_alloc wr (.cells #[.int .i64 a2, .int .i64 b2] 32) none) (fun r e => by cases e)
      obtain ⟨fn, tmps, assign, body, hy0, hR⟩ := hY _ (2, a2, b2) _ hj' (by simp)
      have hy : (Instr.yield l #[.int .i64 2, .agg #[.int .i64 a2, .int .i64 b2]]).run Try.prog (wr.alloc (.cells #[.int .i64 a2, .int .i64 b2] 32)) = .ok (.round l fn tmps assign body) (wr.alloc (.cells #[.int .i64 a2, .int .i64 b2] 32)) := hy0
      clear hy0
      gi_wp2
      refine hR.mono ?_
      rintro e W3 (⟨rfl, hJ3, _⟩ | ⟨rfl, hJx3⟩)
      · gi_wp2
        go_roundw
        case rel => exact .inr (.inr (.inr ⟨rfl, hJ3⟩))
        case measure => simp [intOf]
      · gi_wp2
        refine bodyPost_ret (results_none rfl _ _ _) rfl ?_
        exact ⟨⟨_, rfl⟩, .inr ⟨_, ⟨[], rfl⟩, hJx3⟩⟩
    · gi_wp2
      go_end0
      exact ⟨⟨_, rfl⟩, .inl ⟨_, rfl, hj⟩⟩
end Go.Proofs.Ytbmeljkdemdloaa
