/- Package elgamal: Public, Seal, Again, Strip and what they lean on. -/
import Derived.Test.YtbmeljkdemdloaaElgCh
namespace Go.Proofs.Ytbmeljkdemdloaa
open Go.RowKit Go.Shelf
set_option linter.unusedVariables false

theorem changed_any (a0 b0 a1 b1 a2 b2 : Int) (bl n capl : Nat) (K : Nat → Nat) (cap : Nat → Array Value) (g : Nat → Nat → Int × Int → Int × Int) (w : World)
    (hn : n ≤ 9223372036854775807) (hbl : bl < w.heap.size) (hch : Chs w bl n K cap g) :
    Calls Try.prog 41 #[sealedV a0 b0 a1 b1 a2 b2, .slice (some ⟨bl, 0, none⟩) n capl] w
      fun e w' => e = .returned (sealedV (ap g 0 n (a0, b0)).1 (ap g 0 n (a0, b0)).2 (ap g 1 n (a1, b1)).1 (ap g 1 n (a1, b1)).2 (ap g 2 n (a2, b2)).1 (ap g 2 n (a2, b2)).2) ∧ Below w.heap.size w w' :=
  callsIn_wide.1 (changed_in a0 b0 a1 b1 a2 b2 bl n capl K cap g w hn hbl (Lib.hid hch))

/-- three ints in a block -/
def ThreeAt (w : World) (b : Nat) (n0 n1 n2 : Int) : Prop :=
  w.cell? ⟨b, 0, none⟩ = some (.int .i64 n0) ∧ w.cell? ⟨b, 1, none⟩ = some (.int .i64 n1) ∧ w.cell? ⟨b, 2, none⟩ = some (.int .i64 n2)
theorem ThreeAt.below {w w' : World} {n b : Nat} {n0 n1 n2 : Int} (h : ThreeAt w b n0 n1 n2) (k : Below n w w') (hb : b < n) : ThreeAt w' b n0 n1 n2 :=
  ⟨(k.cell (p := ⟨b, 0, none⟩) hb).trans h.1, (k.cell (p := ⟨b, 1, none⟩) hb).trans h.2.1, (k.cell (p := ⟨b, 2, none⟩) hb).trans h.2.2⟩
/-- one of three -/
def nth3 (n0 n1 n2 : Int) (i : Nat) : Int := if i = 0 then n0 else if i = 1 then n1 else n2
theorem ThreeAt.nth {w : World} {b : Nat} {n0 n1 n2 : Int} (h : ThreeAt w b n0 n1 n2) {i : Nat} (hi : i < 3) : w.cell? ⟨b, i, none⟩ = some (.int .i64 (nth3 n0 n1 n2 i)) := by
  have : i = 0 ∨ i = 1 ∨ i = 2 := by omega
  rcases this with rfl | rfl | rfl
  · exact h.1
  · exact h.2.1
  · exact h.2.2

/-- what say and mask leave -/
def SayAt (w : World) (b : Nat) (n0 n1 n2 : Int) : Prop := b < w.heap.size ∧ ThreeAt w b n0 n1 n2
def MaskAt (w : World) (b : Nat) (key r0 r1 r2 : Int) : Prop := b + 1 < w.heap.size ∧ w.cell? ⟨b, 0, none⟩ = some (.int .i64 key) ∧ ThreeAt w (b + 1) r0 r1 r2
theorem SayAt.below {w w' : World} {b : Nat} {n0 n1 n2 : Int} (h : SayAt w b n0 n1 n2) (k : Below w.heap.size w w') : SayAt w' b n0 n1 n2 :=
  ⟨Nat.lt_of_lt_of_le h.1 k.size, h.2.below k h.1⟩
theorem MaskAt.below {w w' : World} {b : Nat} {key r0 r1 r2 : Int} (h : MaskAt w b key r0 r1 r2) (k : Below w.heap.size w w') : MaskAt w' b key r0 r1 r2 :=
  ⟨Nat.lt_of_lt_of_le h.1 k.size, (k.cell (p := ⟨b, 0, none⟩) (by have := h.1; simp; omega)).trans h.2.1, h.2.2.below k h.1⟩

set_option maxHeartbeats 400000 in
theorem say_any (n0 n1 n2 : Int) (w : World) :
    Calls Try.prog 42 #[.agg #[.int .i64 n0, .int .i64 n1, .int .i64 n2]] w
      fun e w' => e = .returned (.func (.func 56) #[] #[.pointer (some ⟨w.heap.size, 0, none⟩)]) ∧ SayAt w' w.heap.size n0 n1 n2 ∧ Below w.heap.size w w' := by
  refine Calls.mono (R := fun e w' => e = .returned (.func (.func 56) #[] #[.pointer (some ⟨w.heap.size, 0, none⟩)]) ∧ w' = w.alloc (.cells #[.int .i64 n0, .int .i64 n1, .int .i64 n2] 30)) ?_ ?_
  · go_enter Try.func42, Try.ntmps42
    go_wp2
    go_ret
    exact ⟨rfl, rfl⟩
  · rintro e w' ⟨h, rfl⟩
    exact ⟨h, ⟨by simp, by simp, by simp, by simp⟩, bel_alloc1 _ _⟩

set_option maxHeartbeats 400000 in
theorem mask_any (key r0 r1 r2 : Int) (w : World) :
    Calls Try.prog 43 #[.int .i64 key, .agg #[.int .i64 r0, .int .i64 r1, .int .i64 r2]] w
      fun e w' => e = .returned (.func (.func 57) #[] #[.pointer (some ⟨w.heap.size + 1, 0, none⟩), .pointer (some ⟨w.heap.size, 0, none⟩)]) ∧ MaskAt w' w.heap.size key r0 r1 r2 ∧ Below w.heap.size w w' := by
  refine Calls.mono (R := fun e w' => e = .returned (.func (.func 57) #[] #[.pointer (some ⟨w.heap.size + 1, 0, none⟩), .pointer (some ⟨w.heap.size, 0, none⟩)]) ∧ w' = (w.alloc (.cells #[.int .i64 key] 3)).alloc (.cells #[.int .i64 r0, .int .i64 r1, .int .i64 r2] 29)) ?_ ?_
  · go_enter Try.func43, Try.ntmps43
    go_wp2
    go_ret
    exact ⟨rfl, rfl⟩
  · rintro e w' ⟨h, rfl⟩
    exact ⟨h, ⟨by simp, by simp, by simp, by simp, by simp⟩, (bel_alloc1 _ _).alloc (by simp) _⟩

/-- the changes: say words; mask with a key and numbers; take a secret off -/
def gSay (n0 n1 n2 : Int) (i : Nat) (_ : Int × Int) : Int × Int := (1, elmZ (nth3 n0 n1 n2 i))
def gMask (key r0 r1 r2 : Int) (i : Nat) (c : Int × Int) : Int × Int := (mulZ c.1 (powZ 4 (nth3 r0 r1 r2 i)), mulZ c.2 (powZ key (nth3 r0 r1 r2 i)))
def gStrip (s : Int) (_ : Nat) (c : Int × Int) : Int × Int := (c.1, mulZ c.2 (powZ c.1 (-s)))

theorem enters56 : ∀ args W, (callFunc 56 args).run Try.prog W = .ok (.enter 56 args) W := enters_of Try.func56 (by kernel_rfl) rfl
theorem enters57 : ∀ args W, (callFunc 57 args).run Try.prog W = .ok (.enter 57 args) W := enters_of Try.func57 (by kernel_rfl) rfl
theorem enters47 : ∀ args W, (callFunc 47 args).run Try.prog W = .ok (.enter 47 args) W := enters_of Try.func47 (by kernel_rfl) rfl

theorem chs_one {w : World} {bl : Nat} {f : Nat} {cap : Array Value} {g : Nat → Int × Int → Int × Int} (hc : w.cell? ⟨bl, 0, none⟩ = some (.func (.func f) #[] cap))
    (he : ∀ args W, (callFunc f args).run Try.prog W = .ok (.enter f args) W)
    (hg : ∀ (i : Nat) (A B : Int) (W : World), i < 3 → Below w.heap.size w W → Calls Try.prog f (#[.int .i64 i, .agg #[.int .i64 A, .int .i64 B]] ++ cap) W fun e W' => e = .returned (.agg #[.int .i64 (g i (A, B)).1, .int .i64 (g i (A, B)).2]) ∧ Below W.heap.size W W') :
    Chs w bl 1 (fun _ => f) (fun _ => cap) (fun _ => g) := by
  intro k hk
  obtain rfl : k = 0 := by omega
  exact ⟨hc, he, hg⟩

theorem chs_two {w : World} {bl : Nat} {f f' : Nat} {cap cap' : Array Value} {g g' : Nat → Int × Int → Int × Int} (hc : w.cell? ⟨bl, 0, none⟩ = some (.func (.func f) #[] cap)) (hc' : w.cell? ⟨bl, 1, none⟩ = some (.func (.func f') #[] cap'))
    (he : ∀ args W, (callFunc f args).run Try.prog W = .ok (.enter f args) W) (he' : ∀ args W, (callFunc f' args).run Try.prog W = .ok (.enter f' args) W)
    (hg : ∀ (i : Nat) (A B : Int) (W : World), i < 3 → Below w.heap.size w W → Calls Try.prog f (#[.int .i64 i, .agg #[.int .i64 A, .int .i64 B]] ++ cap) W fun e W' => e = .returned (.agg #[.int .i64 (g i (A, B)).1, .int .i64 (g i (A, B)).2]) ∧ Below W.heap.size W W')
    (hg' : ∀ (i : Nat) (A B : Int) (W : World), i < 3 → Below w.heap.size w W → Calls Try.prog f' (#[.int .i64 i, .agg #[.int .i64 A, .int .i64 B]] ++ cap') W fun e W' => e = .returned (.agg #[.int .i64 (g' i (A, B)).1, .int .i64 (g' i (A, B)).2]) ∧ Below W.heap.size W W') :
    Chs w bl 2 (fun k => if k = 0 then f else f') (fun k => if k = 0 then cap else cap') (fun k => if k = 0 then g else g') := by
  intro k hk
  have : k = 0 ∨ k = 1 := by omega
  rcases this with rfl | rfl
  · exact ⟨hc, he, hg⟩
  · exact ⟨hc', he', hg'⟩

theorem say_ch {w : World} {b : Nat} {n0 n1 n2 : Int} (h : SayAt w b n0 n1 n2) : ∀ (i : Nat) (A B : Int) (W : World), i < 3 → Below w.heap.size w W → Calls Try.prog 56 (#[.int .i64 i, .agg #[.int .i64 A, .int .i64 B]] ++ #[.pointer (some ⟨b, 0, none⟩)]) W fun e W' => e = .returned (.agg #[.int .i64 (gSay n0 n1 n2 i (A, B)).1, .int .i64 (gSay n0 n1 n2 i (A, B)).2]) ∧ Below W.heap.size W W' := by
  intro i A B W hi hb
  have k := h.below hb
  exact say1_any i b A B _ W hi (k.2.nth hi) k.1

theorem mask_ch {w : World} {b : Nat} {key r0 r1 r2 : Int} (h : MaskAt w b key r0 r1 r2) : ∀ (i : Nat) (A B : Int) (W : World), i < 3 → Below w.heap.size w W → Calls Try.prog 57 (#[.int .i64 i, .agg #[.int .i64 A, .int .i64 B]] ++ #[.pointer (some ⟨b + 1, 0, none⟩), .pointer (some ⟨b, 0, none⟩)]) W fun e W' => e = .returned (.agg #[.int .i64 (gMask key r0 r1 r2 i (A, B)).1, .int .i64 (gMask key r0 r1 r2 i (A, B)).2]) ∧ Below W.heap.size W W' := by
  intro i A B W hi hb
  have k := h.below hb
  exact mask1_any i (b + 1) b A B _ key W hi (k.2.2.nth hi) k.2.1 k.1 (by have := k.1; omega)

theorem strip_ch {w : World} {b : Nat} {s : Int} (hb0 : b < w.heap.size) (hc : w.cell? ⟨b, 0, none⟩ = some (.int .i64 s)) (s0 : 1 ≤ s) (s1 : s < 1073741789) : ∀ (i : Nat) (A B : Int) (W : World), i < 3 → Below w.heap.size w W → Calls Try.prog 47 (#[.int .i64 i, .agg #[.int .i64 A, .int .i64 B]] ++ #[.pointer (some ⟨b, 0, none⟩)]) W fun e W' => e = .returned (.agg #[.int .i64 (gStrip s i (A, B)).1, .int .i64 (gStrip s i (A, B)).2]) ∧ Below W.heap.size W W' := by
  intro i A B W hi hb
  exact strip1_any i b A B s W ((hb.cell (p := ⟨b, 0, none⟩) hb0).trans hc) (Nat.lt_of_lt_of_le hb0 hb.size) s0 s1

theorem sayMask_chs {w : World} {bs bm : Nat} {n0 n1 n2 key r0 r1 r2 : Int} (hs : SayAt w bs n0 n1 n2) (hm : MaskAt w bm key r0 r1 r2) :
    Chs (w.alloc (.cells #[.func (.func 56) #[] #[.pointer (some ⟨bs, 0, none⟩)], .func (.func 57) #[] #[.pointer (some ⟨bm + 1, 0, none⟩), .pointer (some ⟨bm, 0, none⟩)]] 65)) w.heap.size 2
      (fun k => if k = 0 then 56 else 57) (fun k => if k = 0 then #[.pointer (some ⟨bs, 0, none⟩)] else #[.pointer (some ⟨bm + 1, 0, none⟩), .pointer (some ⟨bm, 0, none⟩)]) (fun k => if k = 0 then gSay n0 n1 n2 else gMask key r0 r1 r2) :=
  chs_two (by simp) (by simp) enters56 enters57 (say_ch (hs.below (bel_alloc1 _ _))) (mask_ch (hm.below (bel_alloc1 _ _)))

theorem mask_chs {w : World} {bm : Nat} {key r0 r1 r2 : Int} (hm : MaskAt w bm key r0 r1 r2) :
    Chs (w.alloc (.cells #[.func (.func 57) #[] #[.pointer (some ⟨bm + 1, 0, none⟩), .pointer (some ⟨bm, 0, none⟩)]] 65)) w.heap.size 1
      (fun _ => 57) (fun _ => #[.pointer (some ⟨bm + 1, 0, none⟩), .pointer (some ⟨bm, 0, none⟩)]) (fun _ => gMask key r0 r1 r2) :=
  chs_one (by simp) enters57 (mask_ch (hm.below (bel_alloc1 _ _)))

theorem strip_chs {w : World} {b : Nat} {s : Int} (hb : b < w.heap.size) (hc : w.cell? ⟨b, 0, none⟩ = some (.int .i64 s)) (s0 : 1 ≤ s) (s1 : s < 1073741789) :
    Chs (w.alloc (.cells #[.func (.func 47) #[] #[.pointer (some ⟨b, 0, none⟩)]] 65)) w.heap.size 1
      (fun _ => 47) (fun _ => #[.pointer (some ⟨b, 0, none⟩)]) (fun _ => gStrip s) :=
  chs_one (by simp) enters47 (strip_ch (by simp; omega) (((bel_alloc1 w _).cell (p := ⟨b, 0, none⟩) hb).trans hc) s0 s1)
end Go.Proofs.Ytbmeljkdemdloaa
