/- Slices of ints and of tiers: what they hold, wherever they lie. -/
import Derived.Test.YticaeecfhfjjeaaLawKit
import Derived.Lib.Hide
import Derived.Outline
import Derived.IntWalk
import Derived.Below
import Derived.OwnWalk
import Derived.WalkKit
import Derived.WalkSpells
namespace Go.Proofs.Yticaeecfhfjjeaa
open Go.RowKit
set_option linter.unusedVariables false

def i64B (z : Int) : Prop := -9223372036854775808 ≤ z ∧ z ≤ 9223372036854775807
abbrev Tr := Int × Int
def IntsAt (w : World) (b off : Nat) (zs : List Int) : Prop := ∀ j, j < zs.length → w.cell? ⟨b, off + j, none⟩ = some (.int .i64 (zs.getD j 0))
def TiersAt (w : World) (b off : Nat) (ts : List Tr) : Prop := ∀ j, j < ts.length →
  w.cell? ⟨b, off + j * 2, none⟩ = some (.int .i64 (ts.getD j (0, 0)).1) ∧ w.cell? ⟨b, off + j * 2 + 1, none⟩ = some (.int .i64 (ts.getD j (0, 0)).2)
theorem IntsAt.below {w w' : World} {n b off : Nat} {zs : List Int} (h : IntsAt w b off zs) (k : Below n w w') (hb : b < n) : IntsAt w' b off zs := fun j hj => (k.cell (p := ⟨b, off + j, none⟩) hb).trans (h j hj)
theorem TiersAt.below {w w' : World} {n b off : Nat} {gs : List Tr} (h : TiersAt w b off gs) (k : Below n w w') (hb : b < n) : TiersAt w' b off gs := fun j hj =>
  ⟨(k.cell (p := ⟨b, off + j * 2, none⟩) hb).trans (h j hj).1, (k.cell (p := ⟨b, off + j * 2 + 1, none⟩) hb).trans (h j hj).2⟩
def IntsV (w : World) (p : Option Addr) (n : Nat) (zs : List Int) : Prop :=
  n = zs.length ∧ n ≤ 9223372036854775807 ∧ (∀ r ∈ zs, i64B r) ∧ (n = 0 ∨ ∃ b off, p = some ⟨b, off, none⟩ ∧ b < w.heap.size ∧ IntsAt w b off zs)
def TiersV (w : World) (p : Option Addr) (n : Nat) (gs : List Tr) : Prop :=
  n = gs.length ∧ n ≤ 9223372036854775807 ∧ (∀ r ∈ gs, i64B r.1 ∧ i64B r.2) ∧ (n = 0 ∨ ∃ b off, p = some ⟨b, off, none⟩ ∧ b < w.heap.size ∧ TiersAt w b off gs)
theorem IntsV.below {w w' : World} {p : Option Addr} {n : Nat} {zs : List Int} (h : IntsV w p n zs) (k : Below w.heap.size w w') : IntsV w' p n zs := by
  obtain ⟨h1, h2, h4, h3⟩ := h
  refine ⟨h1, h2, h4, ?_⟩
  rcases h3 with h3 | ⟨b, off, rfl, hb, hc⟩
  · exact .inl h3
  · exact .inr ⟨b, off, rfl, Nat.lt_of_lt_of_le hb k.size, hc.below k hb⟩
theorem TiersV.below {w w' : World} {p : Option Addr} {n : Nat} {zs : List Tr} (h : TiersV w p n zs) (k : Below w.heap.size w w') : TiersV w' p n zs := by
  obtain ⟨h1, h2, h4, h3⟩ := h
  refine ⟨h1, h2, h4, ?_⟩
  rcases h3 with h3 | ⟨b, off, rfl, hb, hc⟩
  · exact .inl h3
  · exact .inr ⟨b, off, rfl, Nat.lt_of_lt_of_le hb k.size, hc.below k hb⟩
/-- the k-th element, where it lies -/
theorem IntsV.at {w : World} {p : Option Addr} {n : Nat} {zs : List Int} (h : IntsV w p n zs) {k : Nat} (hk : k < n) : ∃ b off, p = some ⟨b, off, none⟩ ∧ b < w.heap.size ∧ w.cell? ⟨b, off + k, none⟩ = some (.int .i64 (zs.getD k 0)) := by
  obtain ⟨h1, h2, h4, h3⟩ := h
  rcases h3 with h3 | ⟨b, off, rfl, hb, hc⟩
  · omega
  · exact ⟨b, off, rfl, hb, hc k (by omega)⟩
theorem TiersV.at {w : World} {p : Option Addr} {n : Nat} {gs : List Tr} (h : TiersV w p n gs) {k : Nat} (hk : k < n) : ∃ b off, p = some ⟨b, off, none⟩ ∧ b < w.heap.size ∧ w.cell? ⟨b, off + k * 2, none⟩ = some (.int .i64 (gs.getD k (0, 0)).1) ∧ w.cell? ⟨b, off + k * 2 + 1, none⟩ = some (.int .i64 (gs.getD k (0, 0)).2) := by
  obtain ⟨h1, h2, h4, h3⟩ := h
  rcases h3 with h3 | ⟨b, off, rfl, hb, hc⟩
  · omega
  · exact ⟨b, off, rfl, hb, hc k (by omega)⟩
theorem getD_mem {α : Type} {zs : List α} {k : Nat} {d : α} (h : k < zs.length) : zs.getD k d ∈ zs := by
  rw [List.getD_eq_getElem?_getD, List.getElem?_eq_getElem h]; exact List.getElem_mem h
theorem IntsV.bd {w : World} {p : Option Addr} {n : Nat} {zs : List Int} (h : IntsV w p n zs) {k : Nat} (hk : k < n) : i64B (zs.getD k 0) := h.2.2.1 _ (getD_mem (by have := h.1; omega))
theorem TiersV.bd {w : World} {p : Option Addr} {n : Nat} {zs : List Tr} (h : TiersV w p n zs) {k : Nat} (hk : k < n) : i64B (zs.getD k (0, 0)).1 ∧ i64B (zs.getD k (0, 0)).2 := h.2.2.1 _ (getD_mem (by have := h.1; omega))
theorem ret_bool {a b : Bool} (h : a = b) : Ending.returned (.bool a) = .returned (.bool b) := by rw [h]
theorem ret_int {a b : Int} (h : a = b) : Ending.returned (.int .i64 a) = .returned (.int .i64 b) := by rw [h]
theorem ret_two {a b c d : Int} (h : a = b) (k : c = d) : Ending.returned (.tuple #[.int .i64 a, .int .i64 c]) = .returned (.tuple #[.int .i64 b, .int .i64 d]) := by rw [h, k]
theorem bel_trans {w w1 w2 : World} (h1 : Below w.heap.size w w1) (h2 : Below w1.heap.size w1 w2) : Below w.heap.size w w2 := h1.trans (h2.mono h1.size)
theorem bel_alloc1 (w : World) (o : Obj) : Below w.heap.size w (w.alloc o) := (Below.refl _ w).alloc (Nat.le_refl _) o
theorem bel_al {w W : World} (h : Below w.heap.size w W) (o : Obj) : Below w.heap.size w (W.alloc o) := h.alloc h.size o
theorem belB2 {w W W' : World} {o : Obj} (h : Below w.heap.size w W) (k : Below (W.alloc o).heap.size (W.alloc o) W') : Below w.heap.size w W' := (h.alloc h.size o).trans (k.mono (by have := h.size; simp; omega))
end Go.Proofs.Yticaeecfhfjjeaa
