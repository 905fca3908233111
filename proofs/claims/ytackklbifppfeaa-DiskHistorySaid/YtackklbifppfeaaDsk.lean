/- A disk in memory: rows, pending writes; which disks are valid. -/
import Derived.Test.YtackklbifppfeaaByt
import Derived.IntWalk
import Derived.WalkKit
import Derived.WalkSpells
import Derived.Deep.QuietTactic
namespace Go.Proofs.Ytackklbifppfeaa
open Go.RowKit
set_option linter.unusedVariables false

/-- a row: where it lies, its length, its room, its bytes -/
structure Rw where
  p : Option Addr
  m : Nat
  c : Nat
  bs : List Int
abbrev Rw.v (r : Rw) : Value := .slice r.p r.m r.c
def rw0 : Rw := ⟨none, 0, 0, []⟩
def RwOk (w : World) (r : Rw) : Prop := SrcW w r.p r.m r.c r.bs ∧ (∀ z ∈ r.bs, 0 ≤ z ∧ z ≤ 255) ∧ r.m ≤ 9223372036854775807 ∧ r.m ≤ r.c ∧ r.c ≤ 9223372036854775807
theorem RwOk.below {w w' : World} {r : Rw} (h : RwOk w r) (k : Below w.heap.size w w') : RwOk w' r := ⟨h.1.below k, h.2⟩
/-- a pending write -/
structure Wt where
  pos : Int
  row : Rw
def wt0 : Wt := ⟨0, rw0⟩
def i64B (z : Int) : Prop := -9223372036854775808 ≤ z ∧ z ≤ 9223372036854775807
def WtOk (w : World) (x : Wt) : Prop := i64B x.pos ∧ RwOk w x.row
theorem WtOk.below {w w' : World} {r : Wt} (h : WtOk w r) (k : Below w.heap.size w w') : WtOk w' r := ⟨h.1, h.2.below k⟩
def SecsAt (w : World) (b off : Nat) (rs : List Rw) : Prop := ∀ j, j < rs.length → w.cell? ⟨b, off + j, none⟩ = some (rs.getD j rw0).v
def WtsAt (w : World) (b off : Nat) (ws : List Wt) : Prop := ∀ j, j < ws.length → w.cell? ⟨b, off + j * 2, none⟩ = some (.int .i64 (ws.getD j wt0).pos) ∧ w.cell? ⟨b, off + j * 2 + 1, none⟩ = some (ws.getD j wt0).row.v
def SecsV (w : World) (p : Option Addr) (n : Nat) (rs : List Rw) : Prop :=
  n = rs.length ∧ n ≤ 9223372036854775807 ∧ (∀ r ∈ rs, RwOk w r) ∧ (n = 0 ∨ ∃ b off, p = some ⟨b, off, none⟩ ∧ b < w.heap.size ∧ SecsAt w b off rs)
def WtsV (w : World) (p : Option Addr) (n : Nat) (ws : List Wt) : Prop :=
  n = ws.length ∧ n ≤ 9223372036854775807 ∧ (∀ r ∈ ws, WtOk w r) ∧ (n = 0 ∨ ∃ b off, p = some ⟨b, off, none⟩ ∧ b < w.heap.size ∧ WtsAt w b off ws)
theorem SecsV.below {w w' : World} {p : Option Addr} {n : Nat} {rs : List Rw} (h : SecsV w p n rs) (k : Below w.heap.size w w') : SecsV w' p n rs := by
  obtain ⟨h1, h2, h4, h3⟩ := h
  refine ⟨h1, h2, fun r hr => (h4 r hr).below k, ?_⟩
  rcases h3 with h3 | ⟨b, off, rfl, hb, hc⟩
  · exact .inl h3
  · exact .inr ⟨b, off, rfl, Nat.lt_of_lt_of_le hb k.size, fun j hj => (k.cell (p := ⟨b, off + j, none⟩) hb).trans (hc j hj)⟩
theorem WtsV.below {w w' : World} {p : Option Addr} {n : Nat} {ws : List Wt} (h : WtsV w p n ws) (k : Below w.heap.size w w') : WtsV w' p n ws := by
  obtain ⟨h1, h2, h4, h3⟩ := h
  refine ⟨h1, h2, fun r hr => (h4 r hr).below k, ?_⟩
  rcases h3 with h3 | ⟨b, off, rfl, hb, hc⟩
  · exact .inl h3
  · exact .inr ⟨b, off, rfl, Nat.lt_of_lt_of_le hb k.size, fun j hj => ⟨(k.cell (p := ⟨b, off + j * 2, none⟩) hb).trans (hc j hj).1, (k.cell (p := ⟨b, off + j * 2 + 1, none⟩) hb).trans (hc j hj).2⟩⟩
theorem getD_mem {α : Type} {zs : List α} {k : Nat} {d : α} (h : k < zs.length) : zs.getD k d ∈ zs := by
  rw [List.getD_eq_getElem?_getD, List.getElem?_eq_getElem h]; exact List.getElem_mem h
theorem SecsV.at {w : World} {p : Option Addr} {n : Nat} {rs : List Rw} (h : SecsV w p n rs) {k : Nat} (hk : k < n) : ∃ b off, p = some ⟨b, off, none⟩ ∧ b < w.heap.size ∧ w.cell? ⟨b, off + k, none⟩ = some (rs.getD k rw0).v ∧ RwOk w (rs.getD k rw0) := by
  obtain ⟨h1, h2, h4, h3⟩ := h
  rcases h3 with h3 | ⟨b, off, rfl, hb, hc⟩
  · omega
  · exact ⟨b, off, rfl, hb, hc k (by omega), h4 _ (getD_mem (by omega))⟩
theorem WtsV.at {w : World} {p : Option Addr} {n : Nat} {ws : List Wt} (h : WtsV w p n ws) {k : Nat} (hk : k < n) : ∃ b off, p = some ⟨b, off, none⟩ ∧ b < w.heap.size ∧ w.cell? ⟨b, off + k * 2, none⟩ = some (.int .i64 (ws.getD k wt0).pos) ∧ w.cell? ⟨b, off + k * 2 + 1, none⟩ = some (ws.getD k wt0).row.v ∧ WtOk w (ws.getD k wt0) := by
  obtain ⟨h1, h2, h4, h3⟩ := h
  rcases h3 with h3 | ⟨b, off, rfl, hb, hc⟩
  · omega
  · exact ⟨b, off, rfl, hb, (hc k (by omega)).1, (hc k (by omega)).2, h4 _ (getD_mem (by omega))⟩
/-- a disk's value -/
abbrev dskC (ps : Option Addr) (ns cs : Nat) (pp : Option Addr) (np cp : Nat) (left : Int) (st : Bool) : Array Value := #[.slice ps ns cs, .slice pp np cp, .int .i64 left, .bool st]
def DskV (w : World) (ps : Option Addr) (ns : Nat) (pp : Option Addr) (np : Nat) (left : Int) (rs : List Rw) (ws : List Wt) : Prop := SecsV w ps ns rs ∧ WtsV w pp np ws ∧ i64B left
theorem DskV.below {w w' : World} {ps : Option Addr} {ns : Nat} {pp : Option Addr} {np : Nat} {left : Int} {rs : List Rw} {ws : List Wt} (h : DskV w ps ns pp np left rs ws) (k : Below w.heap.size w w') : DskV w' ps ns pp np left rs ws := ⟨h.1.below k, h.2.1.below k, h.2.2⟩
def numsB (ns np : Nat) (left : Int) : Bool := decide (1 ≤ ns ∧ ns ≤ 4096 ∧ np ≤ 4096 ∧ -1 ≤ left ∧ left ≤ 65536)
def rowB (r : Rw) : Bool := decide (r.m = 128)
def wtB (ns : Nat) (x : Wt) : Bool := decide (0 ≤ x.pos ∧ x.pos < ns ∧ x.row.m = 128)
def chkB (left : Int) (rs : List Rw) (ws : List Wt) : Bool := numsB rs.length ws.length left && (rs.all rowB && ws.all (wtB rs.length))
def chkE (left : Int) (rs : List Rw) (ws : List Wt) : Int := if chkB left rs ws then 0 else 40
theorem nums_t {ns np : Nat} {left : Int} (h : numsB ns np left = true) : 1 ≤ ns ∧ ns ≤ 4096 ∧ np ≤ 4096 ∧ -1 ≤ left ∧ left ≤ 65536 := by unfold numsB at h; simpa using h
theorem all_t {α : Type} {q : α → Bool} {zs : List α} {d : α} (h : ∀ k, k < zs.length → q (zs.getD k d) = true) : zs.all q = true := by
  rw [List.all_eq_true]; intro x hx
  obtain ⟨k, hk, rfl⟩ := List.mem_iff_getElem.1 hx
  have := h k hk
  rwa [List.getD_eq_getElem?_getD, List.getElem?_eq_getElem hk] at this
theorem all_f {α : Type} {q : α → Bool} {zs : List α} {d : α} {k : Nat} (hk : k < zs.length) (h : q (zs.getD k d) = false) : zs.all q = false := by
  rw [List.all_eq_false]; exact ⟨_, getD_mem hk, by rw [h]; simp⟩
theorem upto {q : Nat → Prop} {k : Nat} (h : ∀ j, j < k → q j) (hk : q k) : ∀ j, j < k + 1 → q j := fun j hj => by
  rcases Nat.lt_or_ge j k with h1 | h1
  · exact h j h1
  · obtain rfl : j = k := by omega
    exact hk
theorem blk4_facts {W : World} {b : Nat} {t : TypeId} {v0 v1 v2 v3 : Value} (h : Blk W b #[v0, v1, v2, v3] t) : W.cell? ⟨b, 0, none⟩ = some v0 ∧ W.cell? ⟨b, 1, none⟩ = some v1 ∧ W.cell? ⟨b, 2, none⟩ = some v2 ∧ W.cell? ⟨b, 3, none⟩ = some v3 ∧ b < W.heap.size := ⟨h.cell 0, h.cell 1, h.cell 2, h.cell 3, h.lt⟩
end Go.Proofs.Ytackklbifppfeaa
