/- An append under a guard; an empty row of ints. -/
import Derived.Test.YtilokkkodocoiaaCalPt
namespace Go.Proofs.Ytilokkkodocoiaa
open Go.RowKit
set_option linter.unusedVariables false
set_option linter.unusedSimpArgs false
theorem wpList_live {P : Program} {ops : Array Oper} {Q : Exit → Act → World → Prop} {rest : List Oper} {o : Oper} {a : Act} {w : World} (hw : Region.wanted o (yielded ops a.tmps) = true)
    (h : wpList P ops Q ({ o with guard := none } :: rest) a w) : wpList P ops Q (o :: rest) a w := by
  have h2 : (if Region.wanted { o with guard := none } (yielded ops a.tmps) = true then Oper.wp P { o with guard := none } a w (wpList P ops Q rest) Q ∨ (Oper.asks P { o with guard := none } a w ∧ LetsOut Q) else wpList P ops Q rest (a.put o.dst undef) w) := h
  have h3 : Region.wanted { o with guard := none } (yielded ops a.tmps) = true := rfl
  rw [if_pos h3] at h2
  show (if Region.wanted o (yielded ops a.tmps) = true then Oper.wp P o a w (wpList P ops Q rest) Q ∨ (o.asks P a w ∧ LetsOut Q) else wpList P ops Q rest (a.put o.dst undef) w)
  rw [if_pos hw]
  exact h2
theorem ownI_new {w : World} (B : Nat) (hB : B ≤ w.heap.size) : OwnI (w.alloc (.cells #[] 3)) B (.slice (some ⟨w.heap.size, 0, none⟩) 0 0) [] :=
  ⟨rfl, .inr ⟨w.heap.size, 0, #[], rfl, hB, World.alloc_heap_new _ _, Nat.le_refl _, by unfold maxLen; omega, rfl, rfl⟩⟩
theorem ownI_intV {w : World} {B : Nat} {v : Value} {zs : List Int} (h : OwnI w B v zs) : ∃ p c, v = .slice p zs.length c ∧ IntV w p zs.length c zs := by
  obtain ⟨p, c, hv, hz, _⟩ := ownI_src h
  exact ⟨p, c, hv, hz⟩
end Go.Proofs.Ytilokkkodocoiaa
