/- Several blocks known whole, carried together. -/
import Derived.Test.YtackklbifppfeaaByt
namespace Go.Proofs.Ytackklbifppfeaa
open Go.RowKit
set_option linter.unusedVariables false

def Blks (W : World) : List (Nat × Array Value × TypeId) → Prop
  | [] => True
  | x :: l => Blk W x.1 x.2.1 x.2.2 ∧ Blks W l
theorem Blks.below {W W' : World} : ∀ {l : List (Nat × Array Value × TypeId)}, Blks W l → Below W.heap.size W W' → Blks W' l
  | [], _, _ => trivial
  | _ :: _, h, k => ⟨h.1.below k h.1.lt, Blks.below h.2 k⟩
theorem Blks.alloc {W : World} {l : List (Nat × Array Value × TypeId)} (h : Blks W l) (o : Obj) : Blks (W.alloc o) l := h.below (bel_alloc1 W o)
theorem Blks.box {W : World} {l : List (Nat × Array Value × TypeId)} (h : Blks W l) (c : Array Value) (t : TypeId) : Blks (W.alloc (.cells c t)) ((W.heap.size, c, t) :: l) := ⟨Blk.new W c t, h.alloc _⟩
theorem Blks.below2 {W W' : World} {o : Obj} {l : List (Nat × Array Value × TypeId)} (h : Blks W l) (k : Below (W.alloc o).heap.size (W.alloc o) W') : Blks W' l := (h.alloc o).below k
theorem Blks.new2 {W W' : World} {c : Array Value} {t : TypeId} {l : List (Nat × Array Value × TypeId)} (h : Blks W l) (k : Below (W.alloc (.cells c t)).heap.size (W.alloc (.cells c t)) W') : Blks W' ((W.heap.size, c, t) :: l) := (h.box c t).below k
theorem belB2 {w W W' : World} {o : Obj} (h : Below w.heap.size w W) (k : Below (W.alloc o).heap.size (W.alloc o) W') : Below w.heap.size w W' := (h.alloc h.size o).trans (k.mono (by have := h.size; simp; omega))
theorem Blks.nil (W : World) : Blks W [] := trivial
theorem Blks.set {W : World} {x : Nat × Array Value × TypeId} {l : List (Nat × Array Value × TypeId)} (h : Blks W (x :: l)) (hne : ∀ y ∈ l, y.1 ≠ x.1) (o : Nat) (v : Value) : Blks (W.setCell ⟨x.1, o, none⟩ v) ((x.1, x.2.1.setIfInBounds o v, x.2.2) :: l) := by
  refine ⟨h.1.set o v, ?_⟩
  have : ∀ l : List (Nat × Array Value × TypeId), (∀ y ∈ l, y.1 ≠ x.1) → Blks W l → Blks (W.setCell ⟨x.1, o, none⟩ v) l := by
    intro l
    induction l with
    | nil => intro _ _; trivial
    | cons y l ih => intro hn hb; exact ⟨hb.1.other o v (hn y (by simp)), ih (fun z hz => hn z (by simp [hz])) hb.2⟩
  exact this l hne h.2
theorem Blks.drew {W : World} : ∀ {l : List (Nat × Array Value × TypeId)}, Blks W l → Blks W.drew l
  | [], _ => trivial
  | _ :: _, h => ⟨h.1, Blks.drew h.2⟩
end Go.Proofs.Ytackklbifppfeaa
