/- A slice of one digest, made (DigBuild, standing on no tree). -/
import Derived.Test.YtjdkdhpippapmaaGreatDoorDigStC
namespace Go.Proofs.YtjdkdhpippapmaaGreatDoor
open Go.RowKit
set_option linter.unusedVariables false
set_option linter.unusedSimpArgs false

theorem fold_fill : ∀ (xs pre c : List Value), c.length = xs.length → (xs.zipIdx pre.length).foldl (fun cs x => cs.setIfInBounds x.2 x.1) (pre ++ c).toArray = (pre ++ xs).toArray
  | [], pre, [], _ => by simp
  | [], pre, _ :: _, h => by simp at h
  | v :: r, pre, [], h => by simp at h
  | v :: r, pre, d :: c, h => by
    have ih := fold_fill r (pre ++ [v]) c (by simpa using h)
    rw [List.length_append] at ih
    simp only [List.length_singleton] at ih
    simp only [List.zipIdx_cons, List.foldl_cons]
    rw [show (pre ++ d :: c).toArray.setIfInBounds pre.length v = ((pre ++ [v]) ++ c).toArray by simp]
    rw [ih]
    simp
set_option maxRecDepth 100000 in
theorem run_build1 (xs : List Value) (hl : xs.length = 32) (w : World) : (Instr.buildSlice 36 1 #[(0, .agg xs.toArray)]).run Tryz.prog w = .ok (.slice (some ⟨w.heap.size, 0, none⟩) 1 1) (w.alloc (.cells xs.toArray 23)) := by
  have u := Tryz.underlying36
  have h := fold_fill xs [] (List.replicate 32 (.int .u8 0)) (by rw [hl]; rfl)
  unfold Instr.buildSlice
  simp [go_sem, hl]
  exact congrArg (fun c => w.alloc (.cells c 23)) h
theorem list_build1 {ops : Array Oper} {Q : Exit → Act → World → Prop} {o : Oper} {rest : List Oper} {a : Act} {w : World} (hw : Region.wanted o (yielded ops a.tmps) = true) (x : Operand) (ho : o.op = .buildSlice 36 1 #[(0, x)]) (xs : List Value) (hx : a.eval x = .agg xs.toArray) (hl : xs.length = 32)
    (h : wpList Tryz.prog ops Q rest (a.put o.dst (.slice (some ⟨w.heap.size, 0, none⟩) 1 1)) (w.alloc (.cells xs.toArray 23))) : wpList Tryz.prog ops Q (o :: rest) a w := by
  refine wpList_step fun K hK => ?_
  rw [if_pos hw]
  have e : (execOp a.eval o).run Tryz.prog w = .ok (.value (.slice (some ⟨w.heap.size, 0, none⟩) 1 1)) (w.alloc (.cells xs.toArray 23)) := by
    unfold execOp
    simp only [ho, List.map_toArray, List.map_cons, List.map_nil, hx, Sem.run_bind]
    rw [run_build1 xs hl w]
    rfl
  unfold Oper.wp
  rw [e]
  exact hK _ _ h
end Go.Proofs.YtjdkdhpippapmaaGreatDoor
