/- Package elgamal: the iterator over ciphers, and changes. -/
import Derived.RangeFuncNested
import Derived.RangeFuncBound
import Derived.RangeFuncCalls
import Derived.RangeFuncLeaves
import Derived.Shelf.Abstract
import Derived.Shelf.RegionOpen
import Derived.OwnWalkIn
import Derived.TacticsInMore
import Derived.LoopNIn
import Derived.LoopIn
import Derived.Test.YtpjobllfiimdkaaGreatDoorElgZA
import Derived.Test.YtpjobllfiimdkaaGreatDoorDig0
namespace Go.Proofs.YtpjobllfiimdkaaGreatDoor
open Go.RowKit Go.Shelf
set_option linter.unusedVariables false
attribute [local go_sem] Oper.semAt_some

/-- an index and a cipher -/
abbrev Cip := Fin 3 × Int × Int
abbrev cEnc (x : Cip) : Array Value := #[.int .i64 (x.1.val : Int), .agg #[.int .i64 x.2.1, .int .i64 x.2.2]]
/-- a letter's six numbers as a value -/
abbrev sealedV (a0 b0 a1 b1 a2 b2 : Int) : Value := .agg #[.int .i64 a0, .int .i64 b0, .int .i64 a1, .int .i64 b1, .int .i64 a2, .int .i64 b2]

set_option maxHeartbeats 400000 in
theorem ciphers_any (a0 b0 a1 b1 a2 b2 : Int) (b : Nat) (w : World) (hb : w.heap.size = b) :
    Calls Tryz.prog 35 #[sealedV a0 b0 a1 b1 a2 b2] w
      fun e w' => e = .returned (.func (.func 69) #[] #[.pointer (some ⟨b, 0, none⟩)]) ∧ w.alloc (.cells #[.int .i64 a0, .int .i64 b0, .int .i64 a1, .int .i64 b1, .int .i64 a2, .int .i64 b2] 32) = w' := by
  subst hb
  go_enter Tryz.func35, Tryz.ntmps35
  go_wp2
  go_ret
  exact ⟨rfl, rfl⟩

/-- six cells of a letter in a block -/
def SixAt (w : World) (b : Nat) (a0 b0 a1 b1 a2 b2 : Int) : Prop :=
  w.cell? ⟨b, 0, none⟩ = some (.int .i64 a0) ∧ w.cell? ⟨b, 1, none⟩ = some (.int .i64 b0) ∧ w.cell? ⟨b, 2, none⟩ = some (.int .i64 a1) ∧ w.cell? ⟨b, 3, none⟩ = some (.int .i64 b1) ∧ w.cell? ⟨b, 4, none⟩ = some (.int .i64 a2) ∧ w.cell? ⟨b, 5, none⟩ = some (.int .i64 b2)
theorem SixAt.below {w w' : World} {n b : Nat} {a0 b0 a1 b1 a2 b2 : Int} (h : SixAt w b a0 b0 a1 b1 a2 b2) (k : Below n w w') (hb : b < n) : SixAt w' b a0 b0 a1 b1 a2 b2 :=
  ⟨(k.cell (p := ⟨b, 0, none⟩) hb).trans h.1, (k.cell (p := ⟨b, 1, none⟩) hb).trans h.2.1, (k.cell (p := ⟨b, 2, none⟩) hb).trans h.2.2.1, (k.cell (p := ⟨b, 3, none⟩) hb).trans h.2.2.2.1, (k.cell (p := ⟨b, 4, none⟩) hb).trans h.2.2.2.2.1, (k.cell (p := ⟨b, 5, none⟩) hb).trans h.2.2.2.2.2⟩
theorem sixAt_new (w : World) (t : TypeId) (a0 b0 a1 b1 a2 b2 : Int) : SixAt (w.alloc (.cells #[.int .i64 a0, .int .i64 b0, .int .i64 a1, .int .i64 b1, .int .i64 a2, .int .i64 b2] t)) w.heap.size a0 b0 a1 b1 a2 b2 := by
  refine ⟨?_, ?_, ?_, ?_, ?_, ?_⟩ <;> simp

set_option maxRecDepth 100000 in
set_option maxHeartbeats 1000000 in
theorem ciphers_stops (a0 b0 a1 b1 a2 b2 : Int) (m : Nat) (hm : 1 ≤ m) (b : Nat) (w : World) (hb : b < w.heap.size) (hc : SixAt w b a0 b0 a1 b1 a2 b2) :
    SeqStopsK Fence.wide m Tryz.prog 69 #[.pointer (some ⟨b, 0, none⟩)] cEnc KeepsWalks
      (fun xs => xs = [(0, a0, b0), (1, a1, b1), (2, a2, b2)]) (fun pre => pre <+: [(0, a0, b0), (1, a1, b1), (2, a2, b2)]) 3 w := fun l J Jx W hW hJ hJx hY h0 => by
  obtain ⟨c0, c1, c2, c3, c4, c5⟩ := hc.below hW hb
  clear hc
  have i0 : ∀ w, (Instr.index 32 (sealedV a0 b0 a1 b1 a2 b2) (.int .i64 0)).run Tryz.prog w = .ok (.agg #[.int .i64 a0, .int .i64 b0]) w := fun _ => by kernel_rfl
  have i1 : ∀ w, (Instr.index 32 (sealedV a0 b0 a1 b1 a2 b2) (.int .i64 1)).run Tryz.prog w = .ok (.agg #[.int .i64 a1, .int .i64 b1]) w := fun _ => by kernel_rfl
  have i2 : ∀ w, (Instr.index 32 (sealedV a0 b0 a1 b1 a2 b2) (.int .i64 2)).run Tryz.prog w = .ok (.agg #[.int .i64 a2, .int .i64 b2]) w := fun _ => by kernel_rfl
  refine callsIn_of_wp Tryz.func69 rfl trivial ?_ rfl
  simp only [Tryz.ntmps69, List.size_toArray, List.length_cons, List.length_nil, Nat.reduceAdd, Nat.reduceSub, Array.replicate_succ, Array.replicate_zero, List.push_toArray, List.append_toArray, List.nil_append, List.cons_append]
  gi_wp2
  gi_loopw [6] (fun i wr => (i = .int .i64 0 ∧ J [] wr) ∨ (i = .int .i64 1 ∧ J [(0, a0, b0)] wr) ∨ (i = .int .i64 2 ∧ J [(0, a0, b0), (1, a1, b1)] wr) ∨ (i = .int .i64 3 ∧ J [(0, a0, b0), (1, a1, b1), (2, a2, b2)] wr)) (fun i _ => (3 - intOf i).toNat)
  case atStart => exact .inl ⟨rfl, h0⟩
  case round =>
    rcases hrel with ⟨rfl, hj⟩ | ⟨rfl, hj⟩ | ⟨rfl, hj⟩ | ⟨rfl, hj⟩
    · have hj' := hJ _ _ _ _ hj (World.grownBy_alloc wr (.cells #[.int .i64 a0, .int .i64 b0] 25) none) (fun r e => by cases e)
      obtain ⟨fn, tmps, assign, body, hy0, hR⟩ := hY _ (0, a0, b0) _ hj' (by simp)
      have hy : (Instr.yield l #[.int .i64 0, .agg #[.int .i64 a0, .int .i64 b0]]).run Tryz.prog (wr.alloc (.cells #[.int .i64 a0, .int .i64 b0] 25)) = .ok (.round l fn tmps assign body) (wr.alloc (.cells #[.int .i64 a0, .int .i64 b0] 25)) := hy0
      clear hy0
      gi_wp2
      refine hR.mono ?_
      rintro e W3 (⟨rfl, hJ3, _⟩ | ⟨rfl, hJx3⟩)
      · gi_wp2
        go_roundw
        case rel => exact .inr (.inl ⟨rfl, hJ3⟩)
        case measure => simp [intOf]
      · gi_wp2
        refine bodyPost_ret (results_none rfl _ _ _) rfl ?_
        exact ⟨⟨_, rfl⟩, .inr ⟨_, ⟨[(1, a1, b1), (2, a2, b2)], rfl⟩, hJx3⟩⟩
    · have hj' := hJ _ _ _ _ hj (World.grownBy_alloc wr (.cells #[.int .i64 a1, .int .i64 b1] 25) none) (fun r e => by cases e)
      obtain ⟨fn, tmps, assign, body, hy0, hR⟩ := hY _ (1, a1, b1) _ hj' (by simp)
      have hy : (Instr.yield l #[.int .i64 1, .agg #[.int .i64 a1, .int .i64 b1]]).run Tryz.prog (wr.alloc (.cells #[.int .i64 a1, .int .i64 b1] 25)) = .ok (.round l fn tmps assign body) (wr.alloc (.cells #[.int .i64 a1, .int .i64 b1] 25)) := hy0
      clear hy0
      gi_wp2
      refine hR.mono ?_
      rintro e W3 (⟨rfl, hJ3, _⟩ | ⟨rfl, hJx3⟩)
      · gi_wp2
        go_roundw
        case rel => exact .inr (.inr (.inl ⟨rfl, hJ3⟩))
        case measure => simp [intOf]
      · gi_wp2
        refine bodyPost_ret (results_none rfl _ _ _) rfl ?_
        exact ⟨⟨_, rfl⟩, .inr ⟨_, ⟨[(2, a2, b2)], rfl⟩, hJx3⟩⟩
    · have hj' := hJ _ _ _ _ hj (World.grownBy_alloc wr (.cells #[.int .i64 a2, .int .i64 b2] 25) none) (fun r e => by cases e)
      obtain ⟨fn, tmps, assign, body, hy0, hR⟩ := hY _ (2, a2, b2) _ hj' (by simp)
      have hy : (Instr.yield l #[.int .i64 2, .agg #[.int .i64 a2, .int .i64 b2]]).run Tryz.prog (wr.alloc (.cells #[.int .i64 a2, .int .i64 b2] 25)) = .ok (.round l fn tmps assign body) (wr.alloc (.cells #[.int .i64 a2, .int .i64 b2] 25)) := hy0
      clear hy0
      gi_wp2
      refine hR.mono ?_
      rintro e W3 (⟨rfl, hJ3, _⟩ | ⟨rfl, hJx3⟩)
      · gi_wp2
        go_roundw
        case rel => exact .inr (.inr (.inr ⟨rfl, hJ3⟩))
        case measure => simp [intOf]
      · gi_wp2
        refine bodyPost_ret (results_none rfl _ _ _) rfl ?_
        exact ⟨⟨_, rfl⟩, .inr ⟨_, ⟨[], rfl⟩, hJx3⟩⟩
    · gi_wp2
      go_end0
      exact ⟨⟨_, rfl⟩, .inl ⟨_, rfl, hj⟩⟩
end Go.Proofs.YtpjobllfiimdkaaGreatDoor
namespace Go.Proofs.YtpjobllfiimdkaaGreatDoor
open Go.RowKit Go.Shelf
set_option linter.unusedVariables false
attribute [local go_sem] Oper.semAt_some

theorem blk_own {β : Type} {B b : Nat} {t : TypeId} (c : β → Array Value) : OwnFrom B (fun (s : β) W => Blk W b (c s) t) := by
  intro s X Y row h hg hr
  refine (hg.block b h.lt ?_).trans h
  intro e
  obtain ⟨_, o, ho, hc⟩ := hr b e.symm
  rw [show X.heap[b]? = _ from h] at ho; cases ho; cases hc

theorem keeps_below {W W' : World} (h : Below W.heap.size W W') : KeepsOthers W W' :=
  ⟨h.size, fun k o hk _ => (h.block k (Array.getElem?_eq_some_iff.1 hk).1).trans hk⟩

/-- changes of a cipher, one after the other -/
def ap (g : Nat → Nat → Int × Int → Int × Int) (i : Nat) : Nat → Int × Int → Int × Int
  | 0, c => c
  | k + 1, c => g k i (ap g i k c)

/-- what the result holds when some ciphers have come -/
def outC (g : Nat → Nat → Int × Int → Int × Int) (n : Nat) (pre : List Cip) : Array Value :=
  pre.foldl (fun c x => (c.setIfInBounds (2 * x.1.val) (.int .i64 (ap g x.1.val n x.2).1)).setIfInBounds (2 * x.1.val + 1) (.int .i64 (ap g x.1.val n x.2).2)) #[.int .i64 0, .int .i64 0, .int .i64 0, .int .i64 0, .int .i64 0, .int .i64 0]
theorem outC_snoc (g : Nat → Nat → Int × Int → Int × Int) (n : Nat) (pre : List Cip) (x : Cip) :
    outC g n (pre ++ [x]) = ((outC g n pre).setIfInBounds (2 * x.1.val) (.int .i64 (ap g x.1.val n x.2).1)).setIfInBounds (2 * x.1.val + 1) (.int .i64 (ap g x.1.val n x.2).2) := by
  simp [outC]
theorem outC_size (g : Nat → Nat → Int × Int → Int × Int) (n : Nat) (pre : List Cip) : (outC g n pre).size = 6 := by
  unfold outC
  have : ∀ (l : List Cip) (c : Array Value), c.size = 6 → (l.foldl (fun c x => (c.setIfInBounds (2 * x.1.val) (.int .i64 (ap g x.1.val n x.2).1)).setIfInBounds (2 * x.1.val + 1) (.int .i64 (ap g x.1.val n x.2).2)) c).size = 6 := by
    intro l
    induction l with
    | nil => intro c h; exact h
    | cons x l ih => intro c h; simp only [List.foldl]; exact ih _ (by simp [h])
  exact this _ _ rfl

/-- what is known of a list of changes: each is a function value, and what it makes of a cipher -/
def Chs (w : World) (bl n : Nat) (K : Nat → Nat) (cap : Nat → Array Value) (g : Nat → Nat → Int × Int → Int × Int) : Prop :=
  ∀ k, k < n → w.cell? ⟨bl, k, none⟩ = some (.func (.func (K k)) #[] (cap k)) ∧ (∀ args W, (callFunc (K k) args).run Tryz.prog W = .ok (.enter (K k) args) W) ∧
    ∀ (i : Nat) (A B : Int) (W : World), i < 3 → Below w.heap.size w W →
      Calls Tryz.prog (K k) (#[.int .i64 i, .agg #[.int .i64 A, .int .i64 B]] ++ cap k) W fun e W' => e = .returned (.agg #[.int .i64 (g k i (A, B)).1, .int .i64 (g k i (A, B)).2]) ∧ Below W.heap.size W W'

set_option maxRecDepth 100000 in
set_option maxHeartbeats 2000000 in
theorem changed_in (a0 b0 a1 b1 a2 b2 : Int) (bl n capl : Nat) (K : Nat → Nat) (cap : Nat → Array Value) (g : Nat → Nat → Int × Int → Int × Int) (w : World)
    (hn : n ≤ 9223372036854775807) (hbl : bl < w.heap.size) (hch : Hid (Chs w bl n K cap g)) :
    CallsIn Fence.wide 5 Tryz.prog 31 #[sealedV a0 b0 a1 b1 a2 b2, .slice (some ⟨bl, 0, none⟩) n capl] w
      fun e w' => e = .returned (sealedV (ap g 0 n (a0, b0)).1 (ap g 0 n (a0, b0)).2 (ap g 1 n (a1, b1)).1 (ap g 1 n (a1, b1)).2 (ap g 2 n (a2, b2)).1 (ap g 2 n (a2, b2)).2) ∧ Below w.heap.size w w' := by
  refine callsIn_of_wp_marks Tryz.func31 rfl trivial ?_ rfl
  simp only [Tryz.ntmps31, List.size_toArray, List.length_cons, List.length_nil, Nat.reduceAdd, Nat.reduceSub, Array.replicate_succ, Array.replicate_zero, List.push_toArray, List.append_toArray, List.nil_append, List.cons_append]
  gi_wp2
  refine ⟨trivial, ?_⟩
  refine (callsIn_wide.2 (ciphers_any _ _ _ _ _ _ (w.heap.size + 1 + 1 + 1) _ (by simp))).mono ?_; rintro e w' ⟨rfl, rfl⟩
  gi_wp2
  obtain ⟨W1, hW1⟩ : ∃ W1, (((w.alloc (.cells #[.int .i64 a0, .int .i64 b0, .int .i64 a1, .int .i64 b1, .int .i64 a2, .int .i64 b2] 32)).alloc (.cells #[.slice (some ⟨bl, 0, none⟩) n capl] 95)).alloc (.cells #[.int .i64 0, .int .i64 0, .int .i64 0, .int .i64 0, .int .i64 0, .int .i64 0] 32)).alloc (.cells #[.int .i64 a0, .int .i64 b0, .int .i64 a1, .int .i64 b1, .int .i64 a2, .int .i64 b2] 32) = W1 := ⟨_, rfl⟩
  have hB0 : Below w.heap.size w W1 := by
    rw [← hW1]; exact (((bel_alloc1 _ _).alloc (by simp) _).alloc (by simp; omega) _).alloc (by simp; omega) _
  have hsz : W1.heap.size = w.heap.size + 4 := by rw [← hW1]; simp
  have k1 : Blk W1 (w.heap.size + 1) #[.slice (some ⟨bl, 0, none⟩) n capl] 95 := by
    rw [← hW1]; have h := Blk.new (w.alloc (.cells #[.int .i64 a0, .int .i64 b0, .int .i64 a1, .int .i64 b1, .int .i64 a2, .int .i64 b2] 32)) #[.slice (some ⟨bl, 0, none⟩) n capl] 95
    rw [World.size_alloc] at h; exact (h.alloc _).alloc _
  have k2 : Blk W1 (w.heap.size + 1 + 1) (outC g n []) 32 := by
    rw [← hW1]; have h := Blk.new ((w.alloc (.cells #[.int .i64 a0, .int .i64 b0, .int .i64 a1, .int .i64 b1, .int .i64 a2, .int .i64 b2] 32)).alloc (.cells #[.slice (some ⟨bl, 0, none⟩) n capl] 95)) (outC g n []) 32
    rw [World.size_alloc, World.size_alloc] at h; exact h.alloc _
  have k3 : SixAt W1 (w.heap.size + 1 + 1 + 1) a0 b0 a1 b1 a2 b2 := by
    rw [← hW1]; have h := sixAt_new (((w.alloc (.cells #[.int .i64 a0, .int .i64 b0, .int .i64 a1, .int .i64 b1, .int .i64 a2, .int .i64 b2] 32)).alloc (.cells #[.slice (some ⟨bl, 0, none⟩) n capl] 95)).alloc (.cells #[.int .i64 0, .int .i64 0, .int .i64 0, .int .i64 0, .int .i64 0, .int .i64 0] 32)) 32 a0 b0 a1 b1 a2 b2
    rw [World.size_alloc, World.size_alloc, World.size_alloc] at h; exact h
  rw [hW1]
  clear hW1
  refine wpIn_rangeFunc_ownH rfl (by omega) (gf := 69) (lb := #[.pointer (some ⟨w.heap.size + 1 + 1 + 1, 0, none⟩)]) rfl trivial (enters_of Tryz.func69 (by kernel_rfl) rfl)
    (ciphers_stops a0 b0 a1 b1 a2 b2 4 (by omega) (w.heap.size + 1 + 1 + 1) W1 (by omega) k3) walksK_t walksK_b (Below.refl _ _) (fun _ => rfl)
    (fun pre W => (Blk W (w.heap.size + 1 + 1) (outC g n pre) 32 ∧ Blk W (w.heap.size + 1) #[.slice (some ⟨bl, 0, none⟩) n capl] 95) ∧ Below w.heap.size w W)
    (fun _ _ _ => False)
    (OwnFrom.and (OwnFrom.and (blk_own (outC g n)) (blk_own fun _ => _)) (ownFrom_below (Nat.le_refl _) (by omega)))
    (fun _ _ _ _ _ hs _ _ => hs)
    ⟨⟨k2, k1⟩, hB0⟩
    (fun x a' W => ∃ Bc, w.heap.size + 1 + 1 < Bc ∧ Blk W Bc #[.int .i64 x.2.1, .int .i64 x.2.2] 25 ∧ a' = { tmps := #[sealedV a0 b0 a1 b1 a2 b2, .slice (some ⟨bl, 0, none⟩) n capl, .pointer (some ⟨w.heap.size, 0, none⟩), .pointer (some ⟨w.heap.size + 1, 0, none⟩), .pointer (some ⟨w.heap.size + 1 + 1, 0, none⟩), .int .i64 (x.1.val : Int), .pointer (some ⟨Bc, 0, none⟩), undef, undef, sealedV a0 b0 a1 b1 a2 b2, .func (.func 69) #[] #[.pointer (some ⟨w.heap.size + 1 + 1 + 1, 0, none⟩)], .int .i64 (x.1.val : Int), .agg #[.int .i64 x.2.1, .int .i64 x.2.2], undef, undef, undef, undef, undef, undef, undef, undef, undef, undef, undef, undef, undef, undef, undef], defers := [] })
    (fun x a' s X Y row h hg hr => by
      obtain ⟨Bc, h1, h2, h3⟩ := h
      exact ⟨Bc, h1, (blk_own (β := Unit) (B := W1.heap.size) fun _ => _) s X Y row h2 hg hr, h3⟩) ?assign ?body ?done ?stop
  case assign =>
    rintro l pre x W K ⟨⟨j1, j2⟩, hB⟩ hK
    gi_wp2
    exact hK _ _ ((KeepsOthers.alloc _ _).from _) (KeepsWalks.alloc _ _) ⟨⟨j1.alloc _, j2.alloc _⟩, hB.alloc hB.size _⟩ ⟨W.heap.size, j1.lt, Blk.new _ _ _, rfl⟩
  case body =>
    rintro l pre ⟨i, A, B⟩ a' W hl hr ⟨⟨j1, j2⟩, hB⟩ ⟨Bc, hBc, jc, rfl⟩ hlt
    have q1 := j2.cell 0
    simp at q1
    have J1 := Lib.hid j1; have J2 := Lib.hid j2; have JC := Lib.hid jc; have HB := Lib.hid hB
    have hi : i.val < 3 := i.isLt
    have HSN := Lib.hid (outC_snoc g n pre (i, A, B))
    clear j1 j2 jc hB hl hr hlt
    gi_wp2
    gi_loopw [15] (fun x wr => ∃ k : Nat, k ≤ n ∧ x = .int .i64 k ∧ Hid (Blk wr Bc #[.int .i64 (ap g i.val k (A, B)).1, .int .i64 (ap g i.val k (A, B)).2] 25 ∧ Blk wr (w.heap.size + 1 + 1) (outC g n pre) 32 ∧ Blk wr (w.heap.size + 1) #[.slice (some ⟨bl, 0, none⟩) n capl] 95 ∧ Below w.heap.size w wr ∧ KeepsOthers W wr)) (fun x _ => n - (intOf x).toNat)
    case atStart => exact ⟨0, Nat.zero_le _, rfl, JC.out, J1.out, J2.out, HB.out, KeepsOthers.refl _⟩
    case round =>
      obtain ⟨k, hk, rfl, hrl⟩ := hrel
      by_cases hlt : k < n
      · obtain ⟨m1, m2, m3, m4, m5⟩ := hrl.out
        have hck := hch.out k hlt
        have f1 : wr.cell? ⟨bl, k, none⟩ = some (.func (.func (K k)) #[] (cap k)) := (m4.cell (p := ⟨bl, k, none⟩) hbl).trans hck.1
        have c1 := m1.cell 0
        have c2 := m1.cell 1
        have d1 := m1.frozen 0
        have d2 := m1.frozen 1
        simp at c1 c2
        have he := hck.2.1 (#[.int .i64 i.val, .agg #[.int .i64 (ap g i.val k (A, B)).1, .int .i64 (ap g i.val k (A, B)).2]] ++ cap k) wr
        have HC := Lib.hid (hck.2.2 i.val (ap g i.val k (A, B)).1 (ap g i.val k (A, B)).2 wr hi m4)
        clear hck m1 m2 m3 m4 m5 q1
        gi_wp2
        refine ⟨trivial, (CallsIn.inRound l (callsIn_wide.2 HC.out)).mono ?_⟩
        rintro e w1 ⟨rfl, hb⟩
        clear c1 c2 d1 d2 f1 he
        obtain ⟨m1, m2, m3, m4, m5⟩ := hrl.out
        have n1 := m1.below hb m1.lt
        have n2 := m2.below hb m2.lt
        have n3 := m3.below hb m3.lt
        have n4 := bel_trans (w1 := wr) m4 hb
        have n5 := m5.trans (keeps_below hb)
        have c1 := n1.cell 0
        have c2 := n1.cell 1
        have d1 := n1.frozen 0
        have d2 := n1.frozen 1
        simp at c1 c2
        have N1 := Lib.hid n1; have N2 := Lib.hid n2; have N3 := Lib.hid n3; have N4 := Lib.hid n4; have N5 := Lib.hid n5
        clear m1 m2 m3 m4 m5 n1 n2 n3 n4 n5 hb
        gi_wp2
        go_roundw
        case rel =>
          refine ⟨k + 1, by omega, by go_num, ?_⟩
          refine ⟨((N1.out.set 0 _).set 1 _), (N2.out.other 0 _ (by omega)).other 1 _ (by omega), (N3.out.other 0 _ (by omega)).other 1 _ (by omega), (N4.out.setCell (p := ⟨Bc, 0, none⟩) (by simp; omega) _).setCell (p := ⟨Bc, 1, none⟩) (by simp; omega) _, (N5.out.trans (KeepsOthers.setCell _ _ _)).trans (KeepsOthers.setCell _ _ _)⟩
        case measure => simp [intOf]; omega
      · obtain rfl : k = n := by omega
        obtain ⟨m1, m2, m3, m4, m5⟩ := hrl.out
        have c1 := m1.cell 0
        have c2 := m1.cell 1
        simp at c1 c2
        obtain ⟨iv, hiv⟩ := i
        have hz6 := outC_size g k pre
        have e0 := fun o => (m2.cell o)
        have M2 := Lib.hid m2; have M3 := Lib.hid m3; have M4 := Lib.hid m4; have M5 := Lib.hid m5
        have hfr := fun o => m2.frozen o
        have hiv2 : iv = 0 ∨ iv = 1 ∨ iv = 2 := by omega
        clear m1 m2 m3 m4 m5 q1
        rcases hiv2 with rfl | rfl | rfl
        · have r0 := rc_some (w := wr) (a := ⟨w.heap.size + 1 + 1, 0, none⟩) (by rw [e0]; exact ⟨_, Array.getElem?_eq_getElem (by omega)⟩)
          have r1 := rc_some (w := wr) (a := ⟨w.heap.size + 1 + 1, 1, none⟩) (by rw [e0]; exact ⟨_, Array.getElem?_eq_getElem (by omega)⟩)
          have g0 := hfr 0
          have g1 := hfr 1
          clear e0 hfr hz6
          dsimp only
          gi_wp2
          refine ⟨((M5.out.trans (KeepsOthers.setCell _ _ _)).trans (KeepsOthers.setCell _ _ _)).from _, ((M5.out.trans (KeepsOthers.setCell _ _ _)).trans (KeepsOthers.setCell _ _ _)).walks, ⟨⟨by rw [show outC g k (pre ++ [((0 : Fin 3), A, B)]) = _ from HSN.out]; exact (M2.out.set 0 _).set 1 _, (M3.out.other 0 _ (by omega)).other 1 _ (by omega)⟩, (M4.out.setCell (p := ⟨w.heap.size + 1 + 1, 0, none⟩) (by simp; omega) _).setCell (p := ⟨w.heap.size + 1 + 1, 1, none⟩) (by simp; omega) _⟩⟩
        · have r0 := rc_some (w := wr) (a := ⟨w.heap.size + 1 + 1, 2, none⟩) (by rw [e0]; exact ⟨_, Array.getElem?_eq_getElem (by omega)⟩)
          have r1 := rc_some (w := wr) (a := ⟨w.heap.size + 1 + 1, 3, none⟩) (by rw [e0]; exact ⟨_, Array.getElem?_eq_getElem (by omega)⟩)
          have g0 := hfr 2
          have g1 := hfr 3
          clear e0 hfr hz6
          dsimp only
          gi_wp2
          refine ⟨((M5.out.trans (KeepsOthers.setCell _ _ _)).trans (KeepsOthers.setCell _ _ _)).from _, ((M5.out.trans (KeepsOthers.setCell _ _ _)).trans (KeepsOthers.setCell _ _ _)).walks, ⟨⟨by rw [show outC g k (pre ++ [((1 : Fin 3), A, B)]) = _ from HSN.out]; exact (M2.out.set 2 _).set 3 _, (M3.out.other 2 _ (by omega)).other 3 _ (by omega)⟩, (M4.out.setCell (p := ⟨w.heap.size + 1 + 1, 2, none⟩) (by simp; omega) _).setCell (p := ⟨w.heap.size + 1 + 1, 3, none⟩) (by simp; omega) _⟩⟩
        · have r0 := rc_some (w := wr) (a := ⟨w.heap.size + 1 + 1, 4, none⟩) (by rw [e0]; exact ⟨_, Array.getElem?_eq_getElem (by omega)⟩)
          have r1 := rc_some (w := wr) (a := ⟨w.heap.size + 1 + 1, 5, none⟩) (by rw [e0]; exact ⟨_, Array.getElem?_eq_getElem (by omega)⟩)
          have g0 := hfr 4
          have g1 := hfr 5
          clear e0 hfr hz6
          dsimp only
          gi_wp2
          refine ⟨((M5.out.trans (KeepsOthers.setCell _ _ _)).trans (KeepsOthers.setCell _ _ _)).from _, ((M5.out.trans (KeepsOthers.setCell _ _ _)).trans (KeepsOthers.setCell _ _ _)).walks, ⟨⟨by rw [show outC g k (pre ++ [((2 : Fin 3), A, B)]) = _ from HSN.out]; exact (M2.out.set 4 _).set 5 _, (M3.out.other 4 _ (by omega)).other 5 _ (by omega)⟩, (M4.out.setCell (p := ⟨w.heap.size + 1 + 1, 4, none⟩) (by simp; omega) _).setCell (p := ⟨w.heap.size + 1 + 1, 5, none⟩) (by simp; omega) _⟩⟩
  case done =>
    rintro D ys W hD rfl ⟨⟨j1, j2⟩, hB⟩ hK
    have hout : outC g n [(0, a0, b0), (1, a1, b1), (2, a2, b2)] = #[.int .i64 (ap g 0 n (a0, b0)).1, .int .i64 (ap g 0 n (a0, b0)).2, .int .i64 (ap g 1 n (a1, b1)).1, .int .i64 (ap g 1 n (a1, b1)).2, .int .i64 (ap g 2 n (a2, b2)).1, .int .i64 (ap g 2 n (a2, b2)).2] := rfl
    rw [hout] at j1
    clear hout
    generalize hu0 : (ap g 0 n (a0, b0)).1 = u0 at j1
    have HU0 := Lib.hid hu0
    clear hu0
    generalize hu1 : (ap g 0 n (a0, b0)).2 = u1 at j1
    have HU1 := Lib.hid hu1
    clear hu1
    generalize hu2 : (ap g 1 n (a1, b1)).1 = u2 at j1
    have HU2 := Lib.hid hu2
    clear hu2
    generalize hu3 : (ap g 1 n (a1, b1)).2 = u3 at j1
    have HU3 := Lib.hid hu3
    clear hu3
    generalize hu4 : (ap g 2 n (a2, b2)).1 = u4 at j1
    have HU4 := Lib.hid hu4
    clear hu4
    generalize hu5 : (ap g 2 n (a2, b2)).2 = u5 at j1
    have HU5 := Lib.hid hu5
    clear hu5
    have c0 := j1.cell 0
    have c1 := j1.cell 1
    have c2 := j1.cell 2
    have c3 := j1.cell 3
    have c4 := j1.cell 4
    have c5 := j1.cell 5
    have d0 := j1.frozen 0
    have d1 := j1.frozen 1
    have d2 := j1.frozen 2
    have d3 := j1.frozen 3
    have d4 := j1.frozen 4
    have d5 := j1.frozen 5
    simp at c0 c1 c2 c3 c4 c5
    gi_wp2
    have hJ : Blk ((((((W.setCell ⟨w.heap.size + 1 + 1, 0, none⟩ (.int .i64 u0)).setCell ⟨w.heap.size + 1 + 1, 1, none⟩ (.int .i64 u1)).setCell ⟨w.heap.size + 1 + 1, 2, none⟩ (.int .i64 u2)).setCell ⟨w.heap.size + 1 + 1, 3, none⟩ (.int .i64 u3)).setCell ⟨w.heap.size + 1 + 1, 4, none⟩ (.int .i64 u4)).setCell ⟨w.heap.size + 1 + 1, 5, none⟩ (.int .i64 u5)) (w.heap.size + 1 + 1) #[.int .i64 u0, .int .i64 u1, .int .i64 u2, .int .i64 u3, .int .i64 u4, .int .i64 u5] 32 := ((((((j1.set 0 (.int .i64 u0)).set 1 (.int .i64 u1)).set 2 (.int .i64 u2)).set 3 (.int .i64 u3)).set 4 (.int .i64 u4)).set 5 (.int .i64 u5))
    have hO : KeepsOthers W ((((((W.setCell ⟨w.heap.size + 1 + 1, 0, none⟩ (.int .i64 u0)).setCell ⟨w.heap.size + 1 + 1, 1, none⟩ (.int .i64 u1)).setCell ⟨w.heap.size + 1 + 1, 2, none⟩ (.int .i64 u2)).setCell ⟨w.heap.size + 1 + 1, 3, none⟩ (.int .i64 u3)).setCell ⟨w.heap.size + 1 + 1, 4, none⟩ (.int .i64 u4)).setCell ⟨w.heap.size + 1 + 1, 5, none⟩ (.int .i64 u5)) := (((((((KeepsOthers.refl W).trans (KeepsOthers.setCell _ _ _)).trans (KeepsOthers.setCell _ _ _)).trans (KeepsOthers.setCell _ _ _)).trans (KeepsOthers.setCell _ _ _)).trans (KeepsOthers.setCell _ _ _)).trans (KeepsOthers.setCell _ _ _))
    have hBw : Below w.heap.size w ((((((W.setCell ⟨w.heap.size + 1 + 1, 0, none⟩ (.int .i64 u0)).setCell ⟨w.heap.size + 1 + 1, 1, none⟩ (.int .i64 u1)).setCell ⟨w.heap.size + 1 + 1, 2, none⟩ (.int .i64 u2)).setCell ⟨w.heap.size + 1 + 1, 3, none⟩ (.int .i64 u3)).setCell ⟨w.heap.size + 1 + 1, 4, none⟩ (.int .i64 u4)).setCell ⟨w.heap.size + 1 + 1, 5, none⟩ (.int .i64 u5)) := ((((((hB.setCell (p := ⟨w.heap.size + 1 + 1, 0, none⟩) (by simp; omega) _).setCell (p := ⟨w.heap.size + 1 + 1, 1, none⟩) (by simp; omega) _).setCell (p := ⟨w.heap.size + 1 + 1, 2, none⟩) (by simp; omega) _).setCell (p := ⟨w.heap.size + 1 + 1, 3, none⟩) (by simp; omega) _).setCell (p := ⟨w.heap.size + 1 + 1, 4, none⟩) (by simp; omega) _).setCell (p := ⟨w.heap.size + 1 + 1, 5, none⟩) (by simp; omega) _)
    generalize ((((((W.setCell ⟨w.heap.size + 1 + 1, 0, none⟩ (.int .i64 u0)).setCell ⟨w.heap.size + 1 + 1, 1, none⟩ (.int .i64 u1)).setCell ⟨w.heap.size + 1 + 1, 2, none⟩ (.int .i64 u2)).setCell ⟨w.heap.size + 1 + 1, 3, none⟩ (.int .i64 u3)).setCell ⟨w.heap.size + 1 + 1, 4, none⟩ (.int .i64 u4)).setCell ⟨w.heap.size + 1 + 1, 5, none⟩ (.int .i64 u5)) = W2 at hJ hO hBw ⊢
    have hK' := hO.same D _ hK rfl
    refine ⟨by simp, .inl ⟨_, _, rfl, run_takeDeferred hK', ?_⟩⟩
    have e0 := cell_kept (hJ.cell 0) (grownBy_putObj' _ D (.deferred none)) (fun r e => by cases e; exact ⟨_, hK', rfl⟩)
    have e1 := cell_kept (hJ.cell 1) (grownBy_putObj' _ D (.deferred none)) (fun r e => by cases e; exact ⟨_, hK', rfl⟩)
    have e2 := cell_kept (hJ.cell 2) (grownBy_putObj' _ D (.deferred none)) (fun r e => by cases e; exact ⟨_, hK', rfl⟩)
    have e3 := cell_kept (hJ.cell 3) (grownBy_putObj' _ D (.deferred none)) (fun r e => by cases e; exact ⟨_, hK', rfl⟩)
    have e4 := cell_kept (hJ.cell 4) (grownBy_putObj' _ D (.deferred none)) (fun r e => by cases e; exact ⟨_, hK', rfl⟩)
    have e5 := cell_kept (hJ.cell 5) (grownBy_putObj' _ D (.deferred none)) (fun r e => by cases e; exact ⟨_, hK', rfl⟩)
    refine ⟨sealedV u0 u1 u2 u3 u4 u5, ?_, by rw [HU0.out, HU1.out, HU2.out, HU3.out, HU4.out, HU5.out], hBw.trans (belowK_b (w := w) (Nat.le_refl _) _ D _ _ (by omega) hK' rfl rfl)⟩
    simp [results, Tryz.f31, go_sem, e0, e1, e2, e3, e4, e5]
  case stop =>
    rintro D c pre W _ _ h _
    exact h.elim
end Go.Proofs.YtpjobllfiimdkaaGreatDoor
namespace Go.Proofs.YtpjobllfiimdkaaGreatDoor
open Go.RowKit Go.Shelf
set_option linter.unusedVariables false

theorem changed_any (a0 b0 a1 b1 a2 b2 : Int) (bl n capl : Nat) (K : Nat → Nat) (cap : Nat → Array Value) (g : Nat → Nat → Int × Int → Int × Int) (w : World)
    (hn : n ≤ 9223372036854775807) (hbl : bl < w.heap.size) (hch : Chs w bl n K cap g) :
    Calls Tryz.prog 31 #[sealedV a0 b0 a1 b1 a2 b2, .slice (some ⟨bl, 0, none⟩) n capl] w
      fun e w' => e = .returned (sealedV (ap g 0 n (a0, b0)).1 (ap g 0 n (a0, b0)).2 (ap g 1 n (a1, b1)).1 (ap g 1 n (a1, b1)).2 (ap g 2 n (a2, b2)).1 (ap g 2 n (a2, b2)).2) ∧ Below w.heap.size w w' :=
  callsIn_wide.1 (changed_in a0 b0 a1 b1 a2 b2 bl n capl K cap g w hn hbl (Lib.hid hch))

/-- three ints in a block -/
def ThreeAt (w : World) (b : Nat) (n0 n1 n2 : Int) : Prop :=
  w.cell? ⟨b, 0, none⟩ = some (.int .i64 n0) ∧ w.cell? ⟨b, 1, none⟩ = some (.int .i64 n1) ∧ w.cell? ⟨b, 2, none⟩ = some (.int .i64 n2)
theorem ThreeAt.below {w w' : World} {n b : Nat} {n0 n1 n2 : Int} (h : ThreeAt w b n0 n1 n2) (k : Below n w w') (hb : b < n) : ThreeAt w' b n0 n1 n2 :=
  ⟨(k.cell (p := ⟨b, 0, none⟩) hb).trans h.1, (k.cell (p := ⟨b, 1, none⟩) hb).trans h.2.1, (k.cell (p := ⟨b, 2, none⟩) hb).trans h.2.2⟩
/-- one of three -/
def nth3 (n0 n1 n2 : Int) (i : Nat) : Int := if i = 0 then n0 else if i = 1 then n1 else n2
theorem ThreeAt.nth {w : World} {b : Nat} {n0 n1 n2 : Int} (h : ThreeAt w b n0 n1 n2) {i : Nat} (hi : i < 3) : w.cell? ⟨b, i, none⟩ = some (.int .i64 (nth3 n0 n1 n2 i)) := by
  have : i = 0 ∨ i = 1 ∨ i = 2 := by omega
  rcases this with rfl | rfl | rfl
  · exact h.1
  · exact h.2.1
  · exact h.2.2

/-- what say and mask leave -/
def SayAt (w : World) (b : Nat) (n0 n1 n2 : Int) : Prop := b < w.heap.size ∧ ThreeAt w b n0 n1 n2
def MaskAt (w : World) (b : Nat) (key r0 r1 r2 : Int) : Prop := b + 1 < w.heap.size ∧ w.cell? ⟨b, 0, none⟩ = some (.int .i64 key) ∧ ThreeAt w (b + 1) r0 r1 r2
theorem SayAt.below {w w' : World} {b : Nat} {n0 n1 n2 : Int} (h : SayAt w b n0 n1 n2) (k : Below w.heap.size w w') : SayAt w' b n0 n1 n2 :=
  ⟨Nat.lt_of_lt_of_le h.1 k.size, h.2.below k h.1⟩
theorem MaskAt.below {w w' : World} {b : Nat} {key r0 r1 r2 : Int} (h : MaskAt w b key r0 r1 r2) (k : Below w.heap.size w w') : MaskAt w' b key r0 r1 r2 :=
  ⟨Nat.lt_of_lt_of_le h.1 k.size, (k.cell (p := ⟨b, 0, none⟩) (by have := h.1; simp; omega)).trans h.2.1, h.2.2.below k h.1⟩

set_option maxHeartbeats 400000 in
theorem say_any (n0 n1 n2 : Int) (w : World) :
    Calls Tryz.prog 65 #[.agg #[.int .i64 n0, .int .i64 n1, .int .i64 n2]] w
      fun e w' => e = .returned (.func (.func 86) #[] #[.pointer (some ⟨w.heap.size, 0, none⟩)]) ∧ SayAt w' w.heap.size n0 n1 n2 ∧ Below w.heap.size w w' := by
  refine Calls.mono (R := fun e w' => e = .returned (.func (.func 86) #[] #[.pointer (some ⟨w.heap.size, 0, none⟩)]) ∧ w' = w.alloc (.cells #[.int .i64 n0, .int .i64 n1, .int .i64 n2] 23)) ?_ ?_
  · go_enter Tryz.func65, Tryz.ntmps65
    go_wp2
    go_ret
    exact ⟨rfl, rfl⟩
  · rintro e w' ⟨h, rfl⟩
    exact ⟨h, ⟨by simp, by simp, by simp, by simp⟩, bel_alloc1 _ _⟩

set_option maxHeartbeats 400000 in
theorem mask_any (key r0 r1 r2 : Int) (w : World) :
    Calls Tryz.prog 66 #[.int .i64 key, .agg #[.int .i64 r0, .int .i64 r1, .int .i64 r2]] w
      fun e w' => e = .returned (.func (.func 88) #[] #[.pointer (some ⟨w.heap.size + 1, 0, none⟩), .pointer (some ⟨w.heap.size, 0, none⟩)]) ∧ MaskAt w' w.heap.size key r0 r1 r2 ∧ Below w.heap.size w w' := by
  refine Calls.mono (R := fun e w' => e = .returned (.func (.func 88) #[] #[.pointer (some ⟨w.heap.size + 1, 0, none⟩), .pointer (some ⟨w.heap.size, 0, none⟩)]) ∧ w' = (w.alloc (.cells #[.int .i64 key] 3)).alloc (.cells #[.int .i64 r0, .int .i64 r1, .int .i64 r2] 22)) ?_ ?_
  · go_enter Tryz.func66, Tryz.ntmps66
    go_wp2
    go_ret
    exact ⟨rfl, rfl⟩
  · rintro e w' ⟨h, rfl⟩
    exact ⟨h, ⟨by simp, by simp, by simp, by simp, by simp⟩, (bel_alloc1 _ _).alloc (by simp) _⟩

/-- the changes: say words; mask with a key and numbers; take a secret off -/
def gSay (n0 n1 n2 : Int) (i : Nat) (_ : Int × Int) : Int × Int := (1, elmZ (nth3 n0 n1 n2 i))
def gMask (key r0 r1 r2 : Int) (i : Nat) (c : Int × Int) : Int × Int := (mulZ c.1 (powZ 4 (nth3 r0 r1 r2 i)), mulZ c.2 (powZ key (nth3 r0 r1 r2 i)))
theorem enters56 : ∀ args W, (callFunc 86 args).run Tryz.prog W = .ok (.enter 86 args) W := enters_of Tryz.func86 (by kernel_rfl) rfl
theorem enters57 : ∀ args W, (callFunc 88 args).run Tryz.prog W = .ok (.enter 88 args) W := enters_of Tryz.func88 (by kernel_rfl) rfl
theorem chs_one {w : World} {bl : Nat} {f : Nat} {cap : Array Value} {g : Nat → Int × Int → Int × Int} (hc : w.cell? ⟨bl, 0, none⟩ = some (.func (.func f) #[] cap))
    (he : ∀ args W, (callFunc f args).run Tryz.prog W = .ok (.enter f args) W)
    (hg : ∀ (i : Nat) (A B : Int) (W : World), i < 3 → Below w.heap.size w W → Calls Tryz.prog f (#[.int .i64 i, .agg #[.int .i64 A, .int .i64 B]] ++ cap) W fun e W' => e = .returned (.agg #[.int .i64 (g i (A, B)).1, .int .i64 (g i (A, B)).2]) ∧ Below W.heap.size W W') :
    Chs w bl 1 (fun _ => f) (fun _ => cap) (fun _ => g) := by
  intro k hk
  obtain rfl : k = 0 := by omega
  exact ⟨hc, he, hg⟩

theorem chs_two {w : World} {bl : Nat} {f f' : Nat} {cap cap' : Array Value} {g g' : Nat → Int × Int → Int × Int} (hc : w.cell? ⟨bl, 0, none⟩ = some (.func (.func f) #[] cap)) (hc' : w.cell? ⟨bl, 1, none⟩ = some (.func (.func f') #[] cap'))
    (he : ∀ args W, (callFunc f args).run Tryz.prog W = .ok (.enter f args) W) (he' : ∀ args W, (callFunc f' args).run Tryz.prog W = .ok (.enter f' args) W)
    (hg : ∀ (i : Nat) (A B : Int) (W : World), i < 3 → Below w.heap.size w W → Calls Tryz.prog f (#[.int .i64 i, .agg #[.int .i64 A, .int .i64 B]] ++ cap) W fun e W' => e = .returned (.agg #[.int .i64 (g i (A, B)).1, .int .i64 (g i (A, B)).2]) ∧ Below W.heap.size W W')
    (hg' : ∀ (i : Nat) (A B : Int) (W : World), i < 3 → Below w.heap.size w W → Calls Tryz.prog f' (#[.int .i64 i, .agg #[.int .i64 A, .int .i64 B]] ++ cap') W fun e W' => e = .returned (.agg #[.int .i64 (g' i (A, B)).1, .int .i64 (g' i (A, B)).2]) ∧ Below W.heap.size W W') :
    Chs w bl 2 (fun k => if k = 0 then f else f') (fun k => if k = 0 then cap else cap') (fun k => if k = 0 then g else g') := by
  intro k hk
  have : k = 0 ∨ k = 1 := by omega
  rcases this with rfl | rfl
  · exact ⟨hc, he, hg⟩
  · exact ⟨hc', he', hg'⟩

theorem say_ch {w : World} {b : Nat} {n0 n1 n2 : Int} (h : SayAt w b n0 n1 n2) : ∀ (i : Nat) (A B : Int) (W : World), i < 3 → Below w.heap.size w W → Calls Tryz.prog 86 (#[.int .i64 i, .agg #[.int .i64 A, .int .i64 B]] ++ #[.pointer (some ⟨b, 0, none⟩)]) W fun e W' => e = .returned (.agg #[.int .i64 (gSay n0 n1 n2 i (A, B)).1, .int .i64 (gSay n0 n1 n2 i (A, B)).2]) ∧ Below W.heap.size W W' := by
  intro i A B W hi hb
  have k := h.below hb
  exact say1_any i b A B _ W hi (k.2.nth hi) k.1

theorem mask_ch {w : World} {b : Nat} {key r0 r1 r2 : Int} (h : MaskAt w b key r0 r1 r2) : ∀ (i : Nat) (A B : Int) (W : World), i < 3 → Below w.heap.size w W → Calls Tryz.prog 88 (#[.int .i64 i, .agg #[.int .i64 A, .int .i64 B]] ++ #[.pointer (some ⟨b + 1, 0, none⟩), .pointer (some ⟨b, 0, none⟩)]) W fun e W' => e = .returned (.agg #[.int .i64 (gMask key r0 r1 r2 i (A, B)).1, .int .i64 (gMask key r0 r1 r2 i (A, B)).2]) ∧ Below W.heap.size W W' := by
  intro i A B W hi hb
  have k := h.below hb
  exact mask1_any i (b + 1) b A B _ key W hi (k.2.2.nth hi) k.2.1 k.1 (by have := k.1; omega)

theorem sayMask_chs {w : World} {bs bm : Nat} {n0 n1 n2 key r0 r1 r2 : Int} (hs : SayAt w bs n0 n1 n2) (hm : MaskAt w bm key r0 r1 r2) :
    Chs (w.alloc (.cells #[.func (.func 86) #[] #[.pointer (some ⟨bs, 0, none⟩)], .func (.func 88) #[] #[.pointer (some ⟨bm + 1, 0, none⟩), .pointer (some ⟨bm, 0, none⟩)]] 91)) w.heap.size 2
      (fun k => if k = 0 then 86 else 88) (fun k => if k = 0 then #[.pointer (some ⟨bs, 0, none⟩)] else #[.pointer (some ⟨bm + 1, 0, none⟩), .pointer (some ⟨bm, 0, none⟩)]) (fun k => if k = 0 then gSay n0 n1 n2 else gMask key r0 r1 r2) :=
  chs_two (by simp) (by simp) enters56 enters57 (say_ch (hs.below (bel_alloc1 _ _))) (mask_ch (hm.below (bel_alloc1 _ _)))

theorem mask_chs {w : World} {bm : Nat} {key r0 r1 r2 : Int} (hm : MaskAt w bm key r0 r1 r2) :
    Chs (w.alloc (.cells #[.func (.func 88) #[] #[.pointer (some ⟨bm + 1, 0, none⟩), .pointer (some ⟨bm, 0, none⟩)]] 91)) w.heap.size 1
      (fun _ => 88) (fun _ => #[.pointer (some ⟨bm + 1, 0, none⟩), .pointer (some ⟨bm, 0, none⟩)]) (fun _ => gMask key r0 r1 r2) :=
  chs_one (by simp) enters57 (mask_ch (hm.below (bel_alloc1 _ _)))

end Go.Proofs.YtpjobllfiimdkaaGreatDoor
