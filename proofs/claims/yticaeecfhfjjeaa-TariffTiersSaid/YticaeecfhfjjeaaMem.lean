/- Blocks known whole, one or several together. -/
import Derived.Test.YticaeecfhfjjeaaTarMem
import Derived.Laws.AppendOwn
import Derived.RangeFuncRecord
namespace Go.Proofs.Yticaeecfhfjjeaa
open Go.RowKit
set_option linter.unusedVariables false

/-- a block of cells, known whole -/
def Blk (W : World) (b : Nat) (c : Array Value) (t : TypeId) : Prop := W.heap[b]? = some (.cells c t (0, 0))
theorem Blk.new (W : World) (c : Array Value) (t : TypeId) : Blk (W.alloc (.cells c t)) W.heap.size c t := World.alloc_heap_new W _
theorem Blk.lt {W : World} {b : Nat} {c : Array Value} {t : TypeId} (h : Blk W b c t) : b < W.heap.size := (Array.getElem?_eq_some_iff.1 h).1
theorem Blk.below {W W' : World} {n b : Nat} {c : Array Value} {t : TypeId} (h : Blk W b c t) (k : Below n W W') (hb : b < n) : Blk W' b c t := (k.block b hb).trans h
theorem Blk.alloc {W : World} {b : Nat} {c : Array Value} {t : TypeId} (h : Blk W b c t) (o : Obj) : Blk (W.alloc o) b c t := h.below (bel_alloc1 W o) h.lt
theorem Blk.cell {W : World} {b : Nat} {c : Array Value} {t : TypeId} (h : Blk W b c t) (o : Nat) : W.cell? ⟨b, o, none⟩ = c[o]? := by
  simp [World.cell?, show W.heap[b]? = _ from h]
theorem Blk.frozen {W : World} {b : Nat} {c : Array Value} {t : TypeId} (h : Blk W b c t) (o : Nat) : W.frozen? ⟨b, o, none⟩ = false := by
  simp [World.frozen?, show W.heap[b]? = _ from h]
theorem Blk.set {W : World} {b : Nat} {c : Array Value} {t : TypeId} (h : Blk W b c t) (o : Nat) (v : Value) : Blk (W.setCell ⟨b, o, none⟩ v) b (c.setIfInBounds o v) t := by
  obtain ⟨hlt, hk⟩ := Array.getElem?_eq_some_iff.1 h
  show (W.heap.modify b _)[b]? = _
  rw [Array.getElem?_eq_getElem (by rw [Array.size_modify]; exact hlt), Array.getElem_modify_self, hk]
  rfl
theorem Blk.other {W : World} {b b' : Nat} {c : Array Value} {t : TypeId} (h : Blk W b c t) (o : Nat) (v : Value) (hne : b ≠ b') : Blk (W.setCell ⟨b', o, none⟩ v) b c t :=
  (Below.heap_setCell W ⟨b', o, none⟩ v b hne).trans h
theorem blk1_facts {W : World} {b : Nat} {t : TypeId} {v0 : Value} (h : Blk W b #[v0] t) : W.cell? ⟨b, 0, none⟩ = some v0 ∧ W.frozen? ⟨b, 0, none⟩ = false := ⟨h.cell 0, h.frozen 0⟩
theorem blk2_facts {W : World} {b : Nat} {t : TypeId} {v0 v1 : Value} (h : Blk W b #[v0, v1] t) : W.cell? ⟨b, 0, none⟩ = some v0 ∧ W.cell? ⟨b, 1, none⟩ = some v1 := ⟨h.cell 0, h.cell 1⟩
theorem blk3_facts {W : World} {b : Nat} {t : TypeId} {v0 v1 v2 : Value} (h : Blk W b #[v0, v1, v2] t) : W.cell? ⟨b, 0, none⟩ = some v0 ∧ W.cell? ⟨b, 1, none⟩ = some v1 ∧ W.cell? ⟨b, 2, none⟩ = some v2 := ⟨h.cell 0, h.cell 1, h.cell 2⟩
def Blks (W : World) : List (Nat × Array Value × TypeId) → Prop
  | [] => True
  | x :: l => Blk W x.1 x.2.1 x.2.2 ∧ Blks W l
theorem Blks.below {W W' : World} : ∀ {l : List (Nat × Array Value × TypeId)}, Blks W l → Below W.heap.size W W' → Blks W' l
  | [], _, _ => trivial
  | _ :: _, h, k => ⟨h.1.below k h.1.lt, Blks.below h.2 k⟩
theorem Blks.alloc {W : World} {l : List (Nat × Array Value × TypeId)} (h : Blks W l) (o : Obj) : Blks (W.alloc o) l := h.below (bel_alloc1 W o)
theorem Blks.box {W : World} {l : List (Nat × Array Value × TypeId)} (h : Blks W l) (c : Array Value) (t : TypeId) : Blks (W.alloc (.cells c t)) ((W.heap.size, c, t) :: l) := ⟨Blk.new W c t, h.alloc _⟩
theorem Blks.below2 {W W' : World} {o : Obj} {l : List (Nat × Array Value × TypeId)} (h : Blks W l) (k : Below (W.alloc o).heap.size (W.alloc o) W') : Blks W' l := (h.alloc o).below k
theorem Blks.new2 {W W' : World} {c : Array Value} {t : TypeId} {l : List (Nat × Array Value × TypeId)} (h : Blks W l) (k : Below (W.alloc (.cells c t)).heap.size (W.alloc (.cells c t)) W') : Blks W' ((W.heap.size, c, t) :: l) := (h.box c t).below k
theorem Blks.nil (W : World) : Blks W [] := trivial
end Go.Proofs.Yticaeecfhfjjeaa
