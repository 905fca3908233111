/- Package elgamal: Seal, for all keys, words and numbers. -/
import Derived.Deep.RegionWith
import Derived.Test.YtbmeljkdemdloaaElgCk
import Derived.Test.YtbmeljkdemdloaaElgKey
namespace Go.Proofs.Ytbmeljkdemdloaa
open Go.RowKit Go.Shelf
set_option linter.unusedVariables false

/-- three ciphers -/
abbrev Let := (Int × Int) × (Int × Int) × (Int × Int)
abbrev letV (l : Let) : Value := sealedV l.1.1 l.1.2 l.2.1.1 l.2.1.2 l.2.2.1 l.2.2.2
def zeroL : Let := ((0, 0), (0, 0), (0, 0))
def mapL (g : Nat → Int × Int → Int × Int) (l : Let) : Let := (g 0 l.1, g 1 l.2.1, g 2 l.2.2)

/-- a result of six cells in block b, which may be written; nothing below it has turned since W -/
def Res6 (W : World) (b : Nat) (t : TypeId) (w' : World) : Prop := Below b W w' ∧ W.heap.size ≤ w'.heap.size ∧ ∃ c : Array Value, c.size = 6 ∧ Blk w' b c t
theorem Res6.drew {W : World} {b : Nat} {t : TypeId} {w' : World} (h : Res6 W b t w') : Res6 W b t w'.drew := ⟨h.1.drew, h.2⟩
theorem Res6.call {W : World} {b : Nat} {t : TypeId} {w' w'' : World} (h : Res6 W b t w') (k : Below w'.heap.size w' w'') : Res6 W b t w'' := by
  obtain ⟨h1, h2, c, hc, hB⟩ := h
  exact ⟨h1.trans (k.mono (Nat.le_of_lt hB.lt)), Nat.le_trans h2 k.size, c, hc, hB.below k hB.lt⟩
theorem Res6.alloc {W : World} {b : Nat} {t : TypeId} {w' : World} (h : Res6 W b t w') (o : Obj) : Res6 W b t (w'.alloc o) := h.call (bel_alloc1 _ _)
theorem Res6.set {W : World} {b : Nat} {t : TypeId} {w' : World} (h : Res6 W b t w') (o : Nat) (v : Value) : Res6 W b t (w'.setCell ⟨b, o, none⟩ v) := by
  obtain ⟨h1, h2, c, hc, hB⟩ := h
  exact ⟨h1.setCell (p := ⟨b, o, none⟩) (Nat.le_refl _) v, by simp [World.setCell]; exact h2, _, by simp [hc], hB.set o v⟩
theorem Res6.cell {W : World} {b : Nat} {t : TypeId} {w' : World} (h : Res6 W b t w') {k : Nat} (hk : k < 6) : w'.cell? ⟨b, k, none⟩ = some (rc w' ⟨b, k, none⟩) := by
  obtain ⟨h1, h2, c, hc, hB⟩ := h
  exact rc_some ⟨_, (hB.cell k).trans (Array.getElem?_eq_getElem (by omega))⟩
theorem Res6.frozen {W : World} {b : Nat} {t : TypeId} {w' : World} (h : Res6 W b t w') (k : Nat) : w'.frozen? ⟨b, k, none⟩ = false := by
  obtain ⟨h1, h2, c, hc, hB⟩ := h
  exact hB.frozen k

/-- what a block was before one of its cells was written -/
theorem Blk.unset {W : World} {b o : Nat} {v : Value} {c : Array Value} {t : TypeId} (h : Blk (W.setCell ⟨b, o, none⟩ v) b c t) : ∃ c', Blk W b c' t ∧ c = c'.setIfInBounds o v := by
  have h' : (W.heap.modify b _)[b]? = some (.cells c t (0, 0)) := h
  rw [Array.getElem?_modify, if_pos rfl] at h'
  cases hc : W.heap[b]? with
  | none => rw [hc] at h'; cases h'
  | some x =>
    rw [hc] at h'
    cases x with
    | cells d u f =>
      simp only [Option.map_some, Option.some.injEq, Obj.cells.injEq] at h'
      obtain ⟨e1, rfl, rfl⟩ := h'
      exact ⟨d, hc, e1.symm⟩
    | _ => simp at h'

theorem six_of_size {c : Array Value} (h : c.size = 6) : ∃ x0 x1 x2 x3 x4 x5, c = #[x0, x1, x2, x3, x4, x5] := by
  obtain ⟨l⟩ := c
  match l, h with
  | [x0, x1, x2, x3, x4, x5], _ => exact ⟨x0, x1, x2, x3, x4, x5, rfl⟩

theorem blk6_final {W : World} {b : Nat} {c : Array Value} {t : TypeId} {v0 v1 v2 v3 v4 v5 : Value} (hs : c.size = 6)
    (h : Blk ((((((W.setCell ⟨b, 0, none⟩ v0).setCell ⟨b, 1, none⟩ v1).setCell ⟨b, 2, none⟩ v2).setCell ⟨b, 3, none⟩ v3).setCell ⟨b, 4, none⟩ v4).setCell ⟨b, 5, none⟩ v5) b c t) : c = #[v0, v1, v2, v3, v4, v5] := by
  obtain ⟨c5, h5, rfl⟩ := h.unset
  obtain ⟨c4, h4, rfl⟩ := h5.unset
  obtain ⟨c3, h3, rfl⟩ := h4.unset
  obtain ⟨c2, h2, rfl⟩ := h3.unset
  obtain ⟨c1, h1, rfl⟩ := h2.unset
  obtain ⟨c0, h0, rfl⟩ := h1.unset
  simp only [Array.size_setIfInBounds] at hs
  obtain ⟨x0, x1, x2, x3, x4, x5, rfl⟩ := six_of_size hs
  rfl

theorem Res6.final {W w' : World} {b : Nat} {t : TypeId} {v0 v1 v2 v3 v4 v5 : Value}
    (h : Res6 W b t ((((((w'.setCell ⟨b, 0, none⟩ v0).setCell ⟨b, 1, none⟩ v1).setCell ⟨b, 2, none⟩ v2).setCell ⟨b, 3, none⟩ v3).setCell ⟨b, 4, none⟩ v4).setCell ⟨b, 5, none⟩ v5)) :
    Blk ((((((w'.setCell ⟨b, 0, none⟩ v0).setCell ⟨b, 1, none⟩ v1).setCell ⟨b, 2, none⟩ v2).setCell ⟨b, 3, none⟩ v3).setCell ⟨b, 4, none⟩ v4).setCell ⟨b, 5, none⟩ v5) b #[v0, v1, v2, v3, v4, v5] t := by
  obtain ⟨h1, h2, c, hc, hB⟩ := h
  have e := blk6_final hc hB
  rw [e] at hB; exact hB

theorem res6_ret {W : World} {b : Nat} {t : TypeId} {v0 v1 v2 v3 v4 v5 : Value} (h : Blk W b #[v0, v1, v2, v3, v4, v5] t) :
    W.cell? ⟨b, 0, none⟩ = some v0 ∧ W.cell? ⟨b, 1, none⟩ = some v1 ∧ W.cell? ⟨b, 2, none⟩ = some v2 ∧ W.cell? ⟨b, 3, none⟩ = some v3 ∧ W.cell? ⟨b, 4, none⟩ = some v4 ∧ W.cell? ⟨b, 5, none⟩ = some v5 :=
  ⟨h.cell 0, h.cell 1, h.cell 2, h.cell 3, h.cell 4, h.cell 5⟩

theorem blk3_facts {W : World} {b : Nat} {t : TypeId} {v0 v1 v2 : Value} (h : Blk W b #[v0, v1, v2] t) : W.cell? ⟨b, 0, none⟩ = some v0 ∧ W.cell? ⟨b, 1, none⟩ = some v1 ∧ W.cell? ⟨b, 2, none⟩ = some v2 := ⟨h.cell 0, h.cell 1, h.cell 2⟩
theorem blk6_facts {W : World} {b : Nat} {t : TypeId} {v0 v1 v2 v3 v4 v5 : Value} (h : Blk W b #[v0, v1, v2, v3, v4, v5] t) :
    W.cell? ⟨b, 0, none⟩ = some v0 ∧ W.cell? ⟨b, 1, none⟩ = some v1 ∧ W.cell? ⟨b, 2, none⟩ = some v2 ∧ W.cell? ⟨b, 3, none⟩ = some v3 ∧ W.cell? ⟨b, 4, none⟩ = some v4 ∧ W.cell? ⟨b, 5, none⟩ = some v5 ∧
    W.frozen? ⟨b, 0, none⟩ = false ∧ W.frozen? ⟨b, 1, none⟩ = false ∧ W.frozen? ⟨b, 2, none⟩ = false ∧ W.frozen? ⟨b, 3, none⟩ = false ∧ W.frozen? ⟨b, 4, none⟩ = false ∧ W.frozen? ⟨b, 5, none⟩ = false :=
  ⟨h.cell 0, h.cell 1, h.cell 2, h.cell 3, h.cell 4, h.cell 5, h.frozen 0, h.frozen 1, h.frozen 2, h.frozen 3, h.frozen 4, h.frozen 5⟩

theorem bcell {W w1 : World} (hb : Below W.heap.size W w1) : (∀ b o, b < W.heap.size → w1.cell? ⟨b, o, none⟩ = W.cell? ⟨b, o, none⟩) ∧ (∀ b o, b < W.heap.size → w1.frozen? ⟨b, o, none⟩ = W.frozen? ⟨b, o, none⟩) :=
  ⟨fun b o h => hb.cell (p := ⟨b, o, none⟩) h, fun b o h => hb.frozen (p := ⟨b, o, none⟩) h⟩

def wordB (n : Int) : Bool := decide (1 ≤ n ∧ n ≤ 1073741789)
def sealE (key n0 n1 n2 : Int) : Int := if elB key then (if wordB n0 && wordB n1 && wordB n2 then 0 else 100) else 90
def sealL (key n0 n1 n2 r0 r1 r2 : Int) : Let := mapL (fun i c => gMask key r0 r1 r2 i (gSay n0 n1 n2 i c)) zeroL
def sealR (key n0 n1 n2 r0 r1 r2 : Int) : Let := if elB key then (if wordB n0 && wordB n1 && wordB n2 then sealL key n0 n1 n2 r0 r1 r2 else zeroL) else zeroL

set_option maxRecDepth 100000 in
set_option maxHeartbeats 2000000 in
theorem seal_no (key n0 n1 n2 r0 r1 r2 : Int) (w : World) (hv : elB key = false) :
    Calls Try.prog 15 #[.int .i64 key, .agg #[.int .i64 n0, .int .i64 n1, .int .i64 n2], .agg #[.int .i64 r0, .int .i64 r1, .int .i64 r2]] w
      fun e w' => e = .returned (.tuple #[letV zeroL, .int .i64 90]) ∧ Below w.heap.size w w' := by
  go_enter Try.func15, Try.ntmps15
  go_wp2_with fail
  refine (val_c key false _ hv).mono ?_; rintro e w' ⟨rfl, rfl⟩
  go_wp2_with fail
  refine bodyPost_ret (v := .tuple #[letV zeroL, .int .i64 90]) (by simp [results, Try.f15, go_sem, zeroL]) rfl ⟨rfl, ?_⟩
  exact ((bel_alloc1 _ _).alloc (by simp) _).alloc (by simp; omega) _

theorem seal_call (key n0 n1 n2 r0 r1 r2 : Int) (bs bm : Nat) (L : Let) (w : World) (hL : L = sealL key n0 n1 n2 r0 r1 r2) (hs : SayAt w bs n0 n1 n2) (hm : MaskAt w bm key r0 r1 r2) :
    Calls Try.prog 41 #[sealedV 0 0 0 0 0 0, .slice (some ⟨w.heap.size, 0, none⟩) 2 2] (w.alloc (.cells #[.func (.func 56) #[] #[.pointer (some ⟨bs, 0, none⟩)], .func (.func 57) #[] #[.pointer (some ⟨bm + 1, 0, none⟩), .pointer (some ⟨bm, 0, none⟩)]] 65))
      fun e w' => e = .returned (letV L) ∧ Below w.heap.size w w' := by
  subst hL
  refine (changed_any 0 0 0 0 0 0 _ 2 2 _ _ _ _ (by omega) (by simp) (sayMask_chs hs hm)).mono fun e w' h => ⟨h.1, ?_⟩
  exact (bel_alloc1 _ _).trans (h.2.mono (by simp))
end Go.Proofs.Ytbmeljkdemdloaa
