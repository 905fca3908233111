/- A region that draws its order, with a class of worlds of one's own: quiet operations, then a tail of one forced order; or quiet operations alone. -/
import Derived.Test.YtmheblpgofeafaaDoorQuietTail
import Derived.Deep.MidRow
namespace Go.Proofs.YtmheblpgofeafaaDoor
open Go
set_option linter.unusedVariables false

section
variable {P : Program} {md : Region.Mode} {ops : Array Oper} {C : World → Prop}
theorem wp_region_quiet_tail_in {id : Nat} {Q : Exit → Act → World → Prop} {a : Act} {w : World} {l : List Oper} (n : Nat) (hm : P.follows .mixedOrders = true) (hB : Region.lexTailB .any l.toArray n = true)
    (hC0 : C { w with drawn := w.drawn + 1 }) (h : wpQuiet P l.toArray C (fun a' => ∀ w', C w' → wpList P l.toArray Q (l.drop n) a' w') (l.take n) a) : (Code.region id l.toArray true).wp P Q a w := by
  simp only [Region.lexTailB, Bool.and_eq_true, decide_eq_true_eq] at hB
  obtain ⟨⟨⟨⟨hsel, hn⟩, hs⟩, hc⟩, hlex⟩ := hB
  have hn' : n < l.length := by simpa using hn
  have htl : (l.take n).length = n := by simp; omega
  have hdl : (l.drop n).length = l.toArray.size - n := by simp
  have H := headQ_text (P := P) (C := C) (g := l.toArray.size - n) hsel hs hc hn (l.take n) 0 (Array.replicate l.toArray.size false) a
    (fun j hj => by rw [htl] at hj; simp [hj]) (by omega)
    ⟨by simp, fun j oj _ hl => (by rw [getD_replicate_false] at hl; cases hl), fun t _ ht => getD_in (by simpa using ht) (getD_replicate_false _ _)⟩ (by rw [htl]; exact hlex) h
  refine wp_region_any hm ?_
  have := any_of_headQ (Q := Q) (g := l.toArray.size - n) (fun d a' w' hC hT => by
    rw [← hdl]
    refine wpAny_of_seq (l.drop n) n d a' w' (fun j => by simp) (by rw [hdl]; exact hT.1) (hT.2 w' hC)) (l.take n).length (Array.replicate l.toArray.size false) a { w with drawn := w.drawn + 1 } hC0 H
  rw [htl, show n + (l.toArray.size - n) = l.toArray.size by omega] at this
  exact this
/-- one quiet operation: it yields in whatever world -/
theorem quiet_yield {Q : Act → Prop} {a : Act} {o : Oper} {rest : List Oper} (hw : Region.wanted o (yielded ops a.tmps) = true) (v : Value) (hy : ∀ u, (execOp a.eval o).run P u = .ok (.value v) u)
    (h : wpQuiet P ops C Q rest (a.put o.dst v)) : wpQuiet P ops C Q (o :: rest) a := by
  refine wpQuiet_step fun K hK => ?_
  rw [if_pos hw]
  refine ⟨v, fun u hu => ?_, hK _ h⟩
  unfold Oper.quietAt
  rw [hy u]
  exact ⟨rfl, rfl⟩
/-- a load of a whole row -/
theorem quiet_load {Q : Act → Prop} {a : Act} {o : Oper} {rest : List Oper} (hw : Region.wanted o (yielded ops a.tmps) = true) (ty : TypeId) (x : Operand) (ho : o.op = .load ty x) (b off : Nat) (hx : a.eval x = .pointer (some ⟨b, off, none⟩))
    (cs : List Value) (d : TypeDesc) (hc : ∀ u, C u → u.rangeAt b off cs) (hu : P.underlying ty = some d) (hd : d.isRow = true) (hi : (P.info? ty).map (·.size) = some cs.length)
    (h : wpQuiet P ops C Q rest (a.put o.dst (.agg cs.toArray))) : wpQuiet P ops C Q (o :: rest) a := by
  refine wpQuiet_step fun K hK => ?_
  rw [if_pos hw]
  refine ⟨.agg cs.toArray, fun u hC => ?_, hK _ h⟩
  unfold Oper.quietAt execOp
  simp only [ho, hx, Instr.loadAt, Instr.sureAddr, Sem.run_bind, Sem.run_pure, Result.andThen_ok, run_loadVar_mid u b off ty cs d (hc u hC) hu hd hi]
  exact ⟨rfl, rfl⟩
/-- a call of a Go function -/
theorem quiet_call {Q : Act → Prop} {a : Act} {o : Oper} {rest : List Oper} (hw : Region.wanted o (yielded ops a.tmps) = true) (f : FuncId) (args : Array Operand) (ts : Array TypeId) (ho : o.op = .call { callee := .value (.func f), args := args, argTypes := ts })
    (vals : Array Value) (hv : args.map a.eval = vals) (hf : ∀ u, (callFunc f vals).run P u = .ok (.enter f vals) u) (v : Value) (hc : ∀ u, C u → Calls P f vals u fun e u' => e = .returned v ∧ C u')
    (h : wpQuiet P ops C Q rest (a.put o.dst v)) : wpQuiet P ops C Q (o :: rest) a := by
  refine wpQuiet_step fun K hK => ?_
  rw [if_pos hw]
  refine ⟨v, fun u hC => ?_, hK _ h⟩
  unfold Oper.quietAt
  have e : (execOp a.eval o).run P u = .ok (.enter f vals) u := by
    simp [execOp, ho, resolve, Act.eval, Deferred.ofValue, invoke, hv, hf u]
  rw [e]
  exact ⟨rfl, hc u hC⟩
end
end Go.Proofs.YtmheblpgofeafaaDoor
