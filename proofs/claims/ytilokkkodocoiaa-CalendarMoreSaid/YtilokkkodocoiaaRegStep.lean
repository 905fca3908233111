/- Steps for a region that draws its order: a call of a Go function by its contract; an append that grows. -/
import Derived.Deep.RegionLaw
import Derived.ArgAppend
import Derived.StillTail
import Derived.Deep.MidRow
import Derived.Test.YtilokkkodocoiaaLawKit
namespace Go.Proofs.Ytilokkkodocoiaa
open Go
set_option linter.unusedVariables false

/-- a call of a Go function, by its contract -/
theorem step_call {P : Program} {ops : Array Oper} {o : Oper} {a : Act} {w : World} {K : Act → World → Prop} {Q : Exit → Act → World → Prop} {E : Prop} (hgd : o.guard = none) (f : FuncId) (args : Array Operand) (ts : Array TypeId)
    (ho : o.op = .call { callee := .value (.func f), args := args, argTypes := ts }) (vals : Array Value) (hv : args.map a.eval = vals) (hf : (callFunc f vals).run P w = .ok (.enter f vals) w) (v : Value) (R : World → Prop)
    (hc : Calls P f vals w fun e w' => e = .returned v ∧ R w') (h : ∀ w', R w' → K (a.put o.dst v) w') :
    if Region.wanted o (yielded ops a.tmps) = true then Oper.wp P o a w K Q else E := by
  rw [if_pos (by simp [Region.wanted, hgd])]
  unfold Oper.wp
  have e : (execOp a.eval o).run P w = .ok (.enter f vals) w := by
    simp [execOp, ho, resolve, Act.eval, Deferred.ofValue, invoke, hv, hf]
  rw [e]
  exact hc.mono fun e w' ⟨he, hR⟩ => by subst he; exact h w' hR

/-- append onto a row that is full -/
theorem step_append_grows {P : Program} {ops : Array Oper} {o : Oper} {a : Act} {w : World} {K : Act → World → Prop} {Q : Exit → Act → World → Prop} {E : Prop} (hgd : o.guard = none) (s x : Operand) (t : TypeId)
    (ho : o.op = .call { callee := .builtin .append, args := #[s, x], argTypes := #[t, t] })
    (e : TypeId) (i : TypeInfo) (z : Value) (size bytes : Nat) (h1 : P.underlying t = some (.slice e)) (h2 : P.info? e = some i) (h3 : i.zero = some z) (h4 : i.size = size) (h5 : i.bytes = bytes) (h6 : z.cells.size = size) (h7 : 0 < size)
    (b : Addr) (n cap : Nat) (olds : List Value) (hs : a.eval s = .slice (some b) n cap) (hlo : olds.length = n * size) (holds : ∀ j u, olds[j]? = some u → w.cell? (b.add j) = some u)
    (ad : Addr) (m c : Nat) (news : List Value) (hx : a.eval x = .slice (some ad) m c) (hn : news.length = m * size) (hc : ∀ j u, news[j]? = some u → w.cell? (ad.add j) = some u)
    (hfull : cap < n + m) (b1 : n + m ≤ maxLen) (b2 : (n + m) * bytes ≤ 140737488355328)
    (h : ∀ v' w', w'.ownsRow w.heap.size e size v' (n + m) (olds ++ news) → w.grownBy w' none → K (a.put o.dst v') w') :
    if Region.wanted o (yielded ops a.tmps) = true then Oper.wp P o a w K Q else E := by
  rw [if_pos (by simp [Region.wanted, hgd])]
  obtain ⟨v', w', hrun, r1, r2⟩ := run_append_arg_grows (P := P) w t o.type e i z size bytes h1 h2 h3 h4 h5 h6 h7 b n cap olds hlo holds ad m c news hn hc hfull b1 b2
  unfold Oper.wp
  simp [execOp, ho, resolve, invoke, builtin, hs, hx, hrun, Result.andThen]
  exact h v' w' r1 r2

/-- may the operations come up in this one order alone? -/
def orderB (md : Region.Mode) (ops : Array Oper) : List Nat → Array Bool → Bool
  | [], done => (Region.ready md ops done).isEmpty
  | i :: is, done => decide (Region.ready md ops done = [i]) && orderB md ops is (done.setIfInBounds i true)
theorem any_of_order {P : Program} {md : Region.Mode} {ops : Array Oper} {Q : Exit → Act → World → Prop} : ∀ (is : List Nat) (l : List Oper) (done : Array Bool) (a : Act) (w : World), is.map (fun i => ops[i]?) = l.map some → orderB md ops is done = true →
    wpList P ops Q l a w → wpAny P md ops Q is.length done a w
  | [], [], _, _, _, _, hB, h => ⟨by simpa [orderB] using hB, h⟩
  | [], _ :: _, _, _, _, hl, _, _ => by simp at hl
  | _ :: _, [], _, _, _, hl, _, _ => by simp at hl
  | i :: is, o :: l, done, a, w, hl, hB, h => by
    simp only [List.map_cons, List.cons.injEq] at hl
    simp only [orderB, Bool.and_eq_true, decide_eq_true_eq] at hB
    refine ⟨fun h1 => (by rw [hB.1] at h1; cases h1), fun j hj => ?_⟩
    rw [hB.1] at hj
    obtain rfl : j = i := by simpa using hj
    have hw : wpOp P ops Q j (wpList P ops Q l) a w := by unfold wpOp; simp only [hl.1]; exact h
    exact wpOp_mono (fun a' w' h' => any_of_order is l _ a' w' hl.2 hB.2 h') hw
theorem any_order {P : Program} {md : Region.Mode} {L : List Oper} {Q : Exit → Act → World → Prop} (is : List Nat) {g : Nat} {done : Array Bool} {a : Act} {w : World} (hg : is.length = g) (hi : (is.all fun i => decide (i < L.length)) = true) (hB : orderB md L.toArray is done = true)
    (h : wpList P L.toArray Q (is.filterMap fun i => L[i]?) a w) : wpAny P md L.toArray Q g done a w := by
  subst hg
  refine any_of_order is _ done a w ?_ hB h
  clear h hB
  induction is with
  | nil => rfl
  | cons i is ih =>
    simp only [List.all_cons, Bool.and_eq_true, decide_eq_true_eq] at hi
    have h1 : L[i]? = some L[i] := List.getElem?_eq_getElem hi.1
    simp only [List.map_cons, List.filterMap_cons, h1, List.getElem?_toArray]
    have h2 := ih hi.2
    simp only [List.getElem?_toArray] at h2
    rw [h2]
/-- what is left of a region in one forced order -/
theorem any_seq_drop {P : Program} {md : Region.Mode} {l : List Oper} {Q : Exit → Act → World → Prop} (n g : Nat) {done : Array Bool} {a : Act} {w : World} (hg : (l.drop n).length = g) (hB : Region.seqB md l.toArray g n done = true)
    (h : wpList P l.toArray Q (l.drop n) a w) : wpAny P md l.toArray Q g done a w := by
  subst hg
  exact wpAny_of_seq (l.drop n) n done a w (fun j => by simp) hB h

/-- behind a part of a region: what is left of it -/
def Qs (P : Program) (md : Region.Mode) (ops : Array Oper) (Q : Exit → Act → World → Prop) (g : Nat) (done : Array Bool) (e : Exit) (a : Act) (w : World) : Prop :=
  match e with
  | .normal => wpAny P md ops Q g done a w
  | e => Q e a w
section
variable {P : Program} {md : Region.Mode} {ops : Array Oper} {Q : Exit → Act → World → Prop}
theorem upon_Qs {o : Oper} {a : Act} {K : Act → World → Prop} {g : Nat} {d : Array Bool} {r : Result Next} (h : o.upon P a K (Qs P md ops Q g d) r) : o.upon P a K Q r := by
  cases r with
  | ok n w => cases n <;> exact h
  | halt x w => cases x <;> exact h
theorem wpOp_Qs {i g : Nat} {d : Array Bool} {K : Act → World → Prop} {a : Act} {w : World} (h : wpOp P ops (Qs P md ops Q g d) i K a w) : wpOp P ops Q i K a w := by
  unfold wpOp at h ⊢
  split
  · rename_i ho; simp only [ho] at h; exact h
  · rename_i o ho
    simp only [ho] at h
    split
    · rename_i hw
      simp only [hw, if_true] at h
      rcases h with h | ⟨h1, h2⟩
      · exact .inl (upon_Qs h)
      · exact .inr ⟨h1, h2⟩
    · rename_i hw; simp only [hw] at h; exact h
/-- must the operations come up in this order for a while? -/
def prefixB (md : Region.Mode) (ops : Array Oper) : List Nat → Array Bool → Bool
  | [], _ => true
  | i :: is, done => decide (Region.ready md ops done = [i]) && prefixB md ops is (done.setIfInBounds i true)
def setAll : List Nat → Array Bool → Array Bool
  | [], d => d
  | i :: is, d => setAll is (d.setIfInBounds i true)
theorem any_of_prefix {g : Nat} : ∀ (is : List Nat) (l : List Oper) (done : Array Bool) (a : Act) (w : World), is.map (fun i => ops[i]?) = l.map some → prefixB md ops is done = true →
    wpList P ops (Qs P md ops Q g (setAll is done)) l a w → wpAny P md ops Q (is.length + g) done a w
  | [], [], _, _, _, _, hB, h => by rw [List.length_nil, Nat.zero_add]; exact h
  | [], _ :: _, _, _, _, hl, _, _ => by simp at hl
  | _ :: _, [], _, _, _, hl, _, _ => by simp at hl
  | i :: is, o :: l, done, a, w, hl, hB, h => by
    simp only [List.map_cons, List.cons.injEq] at hl
    simp only [prefixB, Bool.and_eq_true, decide_eq_true_eq] at hB
    rw [List.length_cons, Nat.add_right_comm]
    refine ⟨fun h1 => (by rw [hB.1] at h1; cases h1), fun j hj => ?_⟩
    rw [hB.1] at hj
    obtain rfl : j = i := by simpa using hj
    have hw : wpOp P ops (Qs P md ops Q g (setAll (j :: is) done)) j (wpList P ops (Qs P md ops Q g (setAll (j :: is) done)) l) a w := by unfold wpOp; simp only [hl.1]; exact h
    exact wpOp_mono (fun a' w' h' => any_of_prefix is l _ a' w' hl.2 hB.2 h') (wpOp_Qs hw)
/-- a part of a region that has one forced order -/
theorem any_prefix {L : List Oper} (is : List Nat) (g : Nat) {f : Nat} {done : Array Bool} {a : Act} {w : World} (hg : is.length + g = f) (hi : (is.all fun i => decide (i < L.length)) = true) (hB : prefixB md L.toArray is done = true)
    (h : wpList P L.toArray (Qs P md L.toArray Q g (setAll is done)) (is.filterMap fun i => L[i]?) a w) : wpAny P md L.toArray Q f done a w := by
  subst hg
  refine any_of_prefix is _ done a w ?_ hB h
  clear h hB
  induction is with
  | nil => rfl
  | cons i is ih =>
    simp only [List.all_cons, Bool.and_eq_true, decide_eq_true_eq] at hi
    have h1 : L[i]? = some L[i] := List.getElem?_eq_getElem hi.1
    simp only [List.map_cons, List.filterMap_cons, h1, List.getElem?_toArray]
    have h2 := ih hi.2
    simp only [List.getElem?_toArray] at h2
    rw [h2]
/-- two operations may come up: each of them first -/
theorem any_two {L : List Oper} (i j : Nat) (g : Nat) {done : Array Bool} {a : Act} {w : World} (oi oj : Oper) (hi : L[i]? = some oi) (hj : L[j]? = some oj) (hB : decide (Region.ready md L.toArray done = [i, j]) = true)
    (h1 : wpList P L.toArray (Qs P md L.toArray Q g (done.setIfInBounds i true)) [oi] a w) (h2 : wpList P L.toArray (Qs P md L.toArray Q g (done.setIfInBounds j true)) [oj] a w) : wpAny P md L.toArray Q (g + 1) done a w := by
  have hB := of_decide_eq_true hB
  refine ⟨fun h => (by rw [hB] at h; cases h), fun k hk => ?_⟩
  rw [hB] at hk
  simp only [List.mem_cons, List.not_mem_nil, or_false] at hk
  rcases hk with rfl | rfl
  · have hw : wpOp P L.toArray (Qs P md L.toArray Q g (done.setIfInBounds k true)) k (wpList P L.toArray (Qs P md L.toArray Q g (done.setIfInBounds k true)) []) a w := by unfold wpOp; simp only [List.getElem?_toArray, hi]; exact h1
    exact wpOp_mono (fun a' w' h' => h') (wpOp_Qs hw)
  · have hw : wpOp P L.toArray (Qs P md L.toArray Q g (done.setIfInBounds k true)) k (wpList P L.toArray (Qs P md L.toArray Q g (done.setIfInBounds k true)) []) a w := by unfold wpOp; simp only [List.getElem?_toArray, hj]; exact h2
    exact wpOp_mono (fun a' w' h' => h') (wpOp_Qs hw)
end
/-- a load of a whole row, guarded or not -/
theorem list_load {P : Program} {ops : Array Oper} {Q : Exit → Act → World → Prop} {o : Oper} {rest : List Oper} {a : Act} {w : World} (hw : Region.wanted o (yielded ops a.tmps) = true) (ty : TypeId) (x : Operand) (ho : o.op = .load ty x) (b off : Nat) (hx : a.eval x = .pointer (some ⟨b, off, none⟩))
    (cs : List Value) (d : TypeDesc) (hc : w.rangeAt b off cs) (hu : P.underlying ty = some d) (hd : d.isRow = true) (hi : (P.info? ty).map (·.size) = some cs.length)
    (h : wpList P ops Q rest (a.put o.dst (.agg cs.toArray)) w) : wpList P ops Q (o :: rest) a w := by
  refine wpList_step fun K hK => ?_
  rw [if_pos hw]
  exact wp_load_mid ty x ho b off hx cs d hc hu hd hi (hK _ _ h)
end Go.Proofs.Ytilokkkodocoiaa
