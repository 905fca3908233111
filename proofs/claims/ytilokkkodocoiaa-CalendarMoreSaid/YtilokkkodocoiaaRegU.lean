/- A region that draws its order, walked for all worlds of a class at once: a read, or a call that leaves what there is as it is and returns the same in all of them, is taken first, wherever the order puts it; new blocks make the class narrower. -/
import Derived.Test.YtilokkkodocoiaaRegC
import Derived.Below
namespace Go.Proofs.Ytilokkkodocoiaa
open Go Go.RowKit
set_option linter.unusedVariables false

def Stable (C : World → Prop) : Prop := ∀ u u', C u → Below u.heap.size u u' → C u'
section
variable {P : Program} {md : Region.Mode} {ops : Array Oper} {Q : Exit → Act → World → Prop} {C D : World → Prop} {tl : List Nat}
def anyU (P : Program) (md : Region.Mode) (ops : Array Oper) (tl : List Nat) (Q : Exit → Act → World → Prop) (D : World → Prop) : Nat → (World → Prop) → Array Bool → Act → Prop
  | 0, C, listed, a => Region.ready md ops listed = [] ∧ ∀ w, C w → Q .normal a w
  | g + 1, C, listed, a => ∀ w, C w → (Region.ready md ops listed = [] → Q .normal a w) ∧
    ∀ i ∈ Region.ready md ops listed, wpOp P ops Q i (fun a' w' => behind tl i (wpAny P md ops Q g (listed.setIfInBounds i true) a' w') True (∃ C' : World → Prop, (∀ u, C' u → D u) ∧ Stable C' ∧ C' w' ∧ anyU P md ops tl Q D g C' (listed.setIfInBounds i true) a')) a w
theorem any_of_U : ∀ (g : Nat) (C : World → Prop) (listed : Array Bool) (a : Act) (w : World), C w → anyU P md ops tl Q D g C listed a → wpAny P md ops Q g listed a w
  | 0, _, _, _, w, hC, h => ⟨h.1, h.2 w hC⟩
  | g + 1, C, listed, a, w, hC, h => ⟨(h w hC).1, fun i hi => wpOp_mono (fun a' w' h' => by
      unfold behind at h'
      split at h'
      · exact h'
      · obtain ⟨_, C', _, _, hC', h''⟩ := h'
        exact any_of_U g C' _ a' w' hC' h'') ((h w hC).2 i hi)⟩
/-- yields in all worlds of the class, and leaves what there is as it is -/
def YieldsU (P : Program) (ops : Array Oper) (C : World → Prop) (o : Oper) (v : Value) (a : Act) : Prop :=
  (Region.wanted o (yielded ops a.tmps) = true ∧ ∀ w, C w → (execOp a.eval o).run P w = .ok (.value v) w ∨ ∃ f vals, (execOp a.eval o).run P w = .ok (.enter f vals) w ∧ Calls P f vals w fun e w' => e = .returned v ∧ Below w.heap.size w w') ∨
  (Region.wanted o (yielded ops a.tmps) = false ∧ v = undef)
theorem YieldsU.wpOp {i : Nat} {o : Oper} {v : Value} {a : Act} (hi : ops[i]? = some o) (hy : YieldsU P ops C o v a)
    {K : Act → World → Prop} {w : World} (hC : C w) (h : ∀ w', Below w.heap.size w w' → K (a.put o.dst v) w') : wpOp P ops Q i K a w := by
  unfold Go.wpOp
  simp only [hi]
  rcases hy with ⟨hw, hv⟩ | ⟨hw, rfl⟩
  · simp only [hw, if_true]
    left
    unfold Oper.wp
    rcases hv w hC with h1 | ⟨f, vals, h1, h2⟩
    · rw [h1]; exact h w (Below.refl _ _)
    · rw [h1]
      exact h2.mono fun e w' ⟨he, hb⟩ => by subst he; exact h w' hb
  · simp only [hw, Bool.false_eq_true, if_false]; exact h w (Below.refl _ _)
theorem YieldsU.of_same {o : Oper} {v : Value} {a a' : Act} (hy : YieldsU P ops C o v a) (he : execOp a'.eval o = execOp a.eval o)
    (hw : Region.wanted o (yielded ops a'.tmps) = Region.wanted o (yielded ops a.tmps)) : YieldsU P ops C o v a' := by
  unfold YieldsU at *
  rw [he, hw]
  exact hy
theorem YieldsU.sub {C' : World → Prop} {o : Oper} {v : Value} {a : Act} (hy : YieldsU P ops C o v a) (hs : ∀ u, C' u → C u) : YieldsU P ops C' o v a :=
  hy.imp (fun h => ⟨h.1, fun w hw => h.2 w (hs w hw)⟩) id
theorem wpOp_putU {j : Nat} {oi oj : Oper} {v : Value} (hj : ops[j]? = some oj) (hap : oi.apart ops oj = true)
    (hsi : ∀ cs b, oi.op ≠ .select cs b) (hsj : ∀ cs b, oj.op ≠ .select cs b)
    (hQ : ∀ c a w, Q (.panic c) (a.put oi.dst v) w → Q (.panic c) a w) {K : Act → World → Prop} {a : Act} {w : World}
    (hy : YieldsU P ops C oi v a) (h : wpOp P ops Q j K (a.put oi.dst v) w) :
    wpOp P ops Q j (fun a' w' => YieldsU P ops C oi v a' ∧ K (a'.put oi.dst v) w') a w := by
  obtain ⟨h1, h2, h3⟩ := Oper.apart_spec hap
  have keep : ∀ (a : Act), YieldsU P ops C oi v a → ∀ u, YieldsU P ops C oi v (a.put oj.dst u) := fun a hy u =>
    hy.of_same (execOp_put oi hsi a oj.dst u h3) (wanted_put oi a oj.dst u h3)
  have keepD : ∀ d, YieldsU P ops C oi v { a with defers := d :: a.defers } := fun d => hy.of_same rfl rfl
  unfold wpOp at *
  simp only [hj] at *
  rw [wanted_put oj a oi.dst v h1] at h
  split
  · rename_i hw
    simp only [hw, if_true] at h
    rcases h with h | ⟨hasks, hlets⟩
    case inr => exact .inr ⟨by unfold Oper.asks at *; rw [execOp_put oj hsj a oi.dst v h1] at hasks; exact hasks, hlets⟩
    refine .inl ?_
    unfold Oper.wp at *
    rw [execOp_put oj hsj a oi.dst v h1] at h
    generalize (execOp a.eval oj).run P w = r at *
    cases r with
    | ok n w' =>
      cases n <;> simp only [Oper.upon] at h ⊢
      case value u => exact ⟨keep a hy u, by rw [← Act.put_comm a v u h2]; exact h⟩
      case skip => exact ⟨keep a hy _, by rw [← Act.put_comm a v undef h2]; exact h⟩
      case defer d =>
        refine ⟨keep _ (keepD d) _, ?_⟩
        rw [← Act.put_comm _ v undef h2, ← Act.put_defers]
        exact h
      case enter f args =>
        refine Calls.mono h fun e w'' he => ?_
        cases e with
        | returned u => exact ⟨keep a hy u, by rw [← Act.put_comm a v u h2]; exact he⟩
        | panicked c => exact hQ _ _ _ he
        | outgrown => exact he
      case row row args => exact Rows.mono h fun u w'' he => ⟨keep a hy u, by rw [← Act.put_comm a v u h2]; exact he⟩
    | halt x w' =>
      cases x <;> simp only [Oper.upon] at h ⊢
      case panic u => exact hQ _ _ _ h
  · rename_i hw
    simp only [hw] at h
    exact ⟨keep a hy _, by rw [← Act.put_comm a v undef h2]; exact h⟩
theorem anyU_first {i : Nat} {oi : Oper} {v : Value} (hi : ops[i]? = some oi) (hsel : ∀ (j : Nat) (o : Oper) cs b, ops[j]? = some o → o.op ≠ .select cs b)
    (hQ : ∀ c a w, Q (.panic c) (a.put oi.dst v) w → Q (.panic c) a w) (hit : i ∉ tl) (f : Nat) (htl : ∀ j ∈ tl, ancB md ops f j i = true) :
    ∀ (fuel : Nat) (C : World → Prop) (listed : Array Bool) (a : Act),
      (∀ j oj, ops[j]? = some oj → j ≠ i → listed.getD j true = false → (∀ e ∈ oj.after, Region.binds md e = true → e.on ≠ i) → oi.apart ops oj = true) →
      i ∈ Region.ready md ops listed → Closed md ops listed → Stable C → (∀ u, C u → D u) → YieldsU P ops D oi v a →
      anyU P md ops tl Q D fuel C (listed.setIfInBounds i true) (a.put oi.dst v) → anyU P md ops tl Q D (fuel + 1) C listed a := by
  intro fuel
  induction fuel with
  | zero =>
    intro C listed a _ hr hcl hst hCD hy H w hC
    refine ⟨fun h => (by rw [h] at hr; cases hr), fun j hj => ?_⟩
    by_cases hji : j = i
    · subst hji; exact hy.wpOp hi (hCD w hC) fun w' hb => by unfold behind; rw [if_neg hit]; exact ⟨trivial, C, hCD, hst, hst _ _ hC hb, H⟩
    · have := ready_mono hj hji
      rw [H.1] at this
      cases this
  | succ fuel ih =>
    intro C listed a hfree hr hcl hst hCD hy H w hC
    refine ⟨fun h => (by rw [h] at hr; cases hr), fun j hj => ?_⟩
    by_cases hji : j = i
    · subst hji; exact hy.wpOp hi (hCD w hC) fun w' hb => by unfold behind; rw [if_neg hit]; exact ⟨trivial, C, hCD, hst, hst _ _ hC hb, H⟩
    · have h1 := (H w hC).2 j (ready_mono hj hji)
      obtain ⟨hjun, oj, hoj, hall⟩ := mem_ready.1 hj
      have hnot : ∀ e ∈ oj.after, Region.binds md e = true → e.on ≠ i := fun e he hb heq => by
        have h1 := hall e he hb
        have h0 := (mem_ready.1 hr).1
        rw [heq] at h1
        rcases Nat.lt_or_ge i listed.size with h' | h'
        · simp [h'] at h0 h1; rw [h0] at h1; cases h1
        · simp [Array.getElem?_eq_none h'] at h1
      have hjt : j ∉ tl := fun hm => by
        have h1 := anc_ready hcl hj (htl j hm)
        have h0 := (mem_ready.1 hr).1
        rcases Nat.lt_or_ge i listed.size with h' | h'
        · simp [h'] at h0 h1; rw [h0] at h1; cases h1
        · simp [Array.getElem?_eq_none h'] at h1
      have h1 := wpOp_mono (fun a' w' h' => by unfold behind at h'; rw [if_neg hjt] at h'; exact h'.2) h1
      have h2 := wpOp_putU hoj (hfree j oj hoj hji hjun hnot) (fun cs b => hsel i oi cs b hi) (fun cs b => hsel j oj cs b hoj) hQ hy h1
      have hfree' : ∀ k ok, ops[k]? = some ok → k ≠ i → (listed.setIfInBounds j true).getD k true = false →
          (∀ e ∈ ok.after, Region.binds md e = true → e.on ≠ i) → oi.apart ops ok = true := fun k ok hk hki hun hno => by
        refine hfree k ok hk hki ?_ hno
        by_cases hjk : j = k
        · subst hjk; exact hjun
        · rw [getD_set_ne true hjk] at hun; exact hun
      refine wpOp_mono (fun a' w' h3 => ?_) h2
      unfold behind; rw [if_neg hjt]
      obtain ⟨hy', C', hsub, hst', hC', H'⟩ := h3
      exact ⟨trivial, C', hsub, hst', hC', ih C' (listed.setIfInBounds j true) a' hfree' (ready_mono hr (Ne.symm hji)) (closed_set hcl hj) hst' hsub hy' (by rw [Array.setIfInBounds_comm _ _ hji]; exact H')⟩
theorem anyU_take {i : Nat} {oi : Oper} {v : Value} {fuel : Nat} {listed : Array Bool} {a : Act} (hi : ops[i]? = some oi)
    (hs : Region.noSelect ops = true) (hf : Region.free md ops listed i = true) (hr : (Region.ready md ops listed).contains i = true)
    (hQ : ∀ c a w, Q (.panic c) (a.put oi.dst v) w → Q (.panic c) a w) (ht : tlB md ops tl listed i = true) (hst : Stable C) (hCD : ∀ u, C u → D u) (hy : YieldsU P ops D oi v a)
    (h : anyU P md ops tl Q D fuel C (listed.setIfInBounds i true) (a.put oi.dst v)) : anyU P md ops tl Q D (fuel + 1) C listed a :=
  anyU_first hi (Region.noSelect_spec hs) hQ (tlB_spec ht).1 _ (tlB_spec ht).2.2 fuel C listed a (Region.free_spec hi hf) (by simpa using hr) (tlB_spec ht).2.1 hst hCD hy h
theorem anyU_takeD {i : Nat} (d : Tmp) {oi : Oper} {v : Value} {fuel : Nat} {listed : Array Bool} {a : Act} (hi : ops[i]? = some oi) (hd : oi.dst = some d)
    (hs : Region.noSelect ops = true) (hf : Region.free md ops listed i = true) (hr : (Region.ready md ops listed).contains i = true)
    (hQ : ∀ c a w, Q (.panic c) (a.put (some d) v) w → Q (.panic c) a w) (ht : tlB md ops tl listed i = true) (hst : Stable C) (hCD : ∀ u, C u → D u) (hy : YieldsU P ops D oi v a)
    (h : anyU P md ops tl Q D fuel C (listed.setIfInBounds i true) (a.put (some d) v)) : anyU P md ops tl Q D (fuel + 1) C listed a := by
  rw [← hd] at hQ h
  exact anyU_take hi hs hf hr hQ ht hst hCD hy h
/-- behind a step -/
def QU (P : Program) (md : Region.Mode) (ops : Array Oper) (tl : List Nat) (Q : Exit → Act → World → Prop) (D : World → Prop) (g : Nat) (done : Array Bool) (e : Exit) (a : Act) (w : World) : Prop :=
  match e with
  | .normal => ∃ C' : World → Prop, (∀ u, C' u → D u) ∧ Stable C' ∧ C' w ∧ anyU P md ops tl Q D g C' done a
  | e => Q e a w
theorem upon_QU {o : Oper} {a : Act} {K : Act → World → Prop} {g : Nat} {d : Array Bool} {r : Result Next} (h : o.upon P a K (QU P md ops tl Q D g d) r) : o.upon P a K Q r := by
  cases r with
  | ok n w => cases n <;> exact h
  | halt x w => cases x <;> exact h
theorem wpOp_QU {i g : Nat} {d : Array Bool} {K : Act → World → Prop} {a : Act} {w : World} (h : wpOp P ops (QU P md ops tl Q D g d) i K a w) : wpOp P ops Q i K a w := by
  unfold wpOp at h ⊢
  split
  · rename_i ho; simp only [ho] at h; exact h
  · rename_i o ho
    simp only [ho] at h
    split
    · rename_i hw
      simp only [hw, if_true] at h
      rcases h with h | ⟨h1, h2⟩
      · exact .inl (upon_QU h)
      · exact .inr ⟨h1, h2⟩
    · rename_i hw; simp only [hw] at h; exact h
theorem step_U {L : List Oper} {k g : Nat} {done : Array Bool} {a : Act} {w : World} {ok : Oper} (hk : L[k]? = some ok) (hit : tl.contains k = false)
    (h1 : wpList P L.toArray (QU P md L.toArray tl Q D g (done.setIfInBounds k true)) [ok] a w) :
    wpOp P L.toArray Q k (fun a' w' => behind tl k (wpAny P md L.toArray Q g (done.setIfInBounds k true) a' w') True (∃ C' : World → Prop, (∀ u, C' u → D u) ∧ Stable C' ∧ C' w' ∧ anyU P md L.toArray tl Q D g C' (done.setIfInBounds k true) a')) a w := by
  have hw : wpOp P L.toArray (QU P md L.toArray tl Q D g (done.setIfInBounds k true)) k (wpList P L.toArray (QU P md L.toArray tl Q D g (done.setIfInBounds k true)) []) a w := by unfold wpOp; simp only [List.getElem?_toArray, hk]; exact h1
  have hit : k ∉ tl := fun h => by simp [h] at hit
  exact wpOp_mono (fun a' w' h' => by unfold behind; rw [if_neg hit]; exact ⟨trivial, h'⟩) (wpOp_QU hw)
/-- one step that must come next -/
theorem anyU_one {L : List Oper} (i : Nat) (g : Nat) {done : Array Bool} {a : Act} (oi : Oper) (hi : L[i]? = some oi) (hit : tl.contains i = false) (hB : decide (Region.ready md L.toArray done = [i]) = true)
    (h1 : ∀ w, C w → wpList P L.toArray (QU P md L.toArray tl Q D g (done.setIfInBounds i true)) [oi] a w) : anyU P md L.toArray tl Q D (g + 1) C done a := by
  have hB := of_decide_eq_true hB
  intro w hC
  refine ⟨fun h => (by rw [hB] at h; cases h), fun k hk => ?_⟩
  rw [hB] at hk
  simp only [List.mem_cons, List.not_mem_nil, or_false] at hk
  subst hk
  exact step_U hi hit (h1 w hC)
theorem anyU_two {L : List Oper} (i j : Nat) (g : Nat) {done : Array Bool} {a : Act} (oi oj : Oper) (hi : L[i]? = some oi) (hj : L[j]? = some oj) (hit : tl.contains i = false) (hjt : tl.contains j = false) (hB : decide (Region.ready md L.toArray done = [i, j]) = true)
    (h1 : ∀ w, C w → wpList P L.toArray (QU P md L.toArray tl Q D g (done.setIfInBounds i true)) [oi] a w) (h2 : ∀ w, C w → wpList P L.toArray (QU P md L.toArray tl Q D g (done.setIfInBounds j true)) [oj] a w) : anyU P md L.toArray tl Q D (g + 1) C done a := by
  have hB := of_decide_eq_true hB
  intro w hC
  refine ⟨fun h => (by rw [hB] at h; cases h), fun k hk => ?_⟩
  rw [hB] at hk
  simp only [List.mem_cons, List.not_mem_nil, or_false] at hk
  rcases hk with rfl | rfl
  · exact step_U hi hit (h1 w hC)
  · exact step_U hj hjt (h2 w hC)
/-- the tail, in the one order that is left -/
theorem anyU_tail {L : List Oper} (i : Nat) (is : List Nat) {g : Nat} {done : Array Bool} {a : Act} (hg : is.length + 1 = g) (hit : tl.contains i = true) (hi : ((i :: is).all fun i => decide (i < L.length)) = true) (hB : orderB md L.toArray (i :: is) done = true)
    (h : ∀ w, C w → wpList P L.toArray Q ((i :: is).filterMap fun i => L[i]?) a w) : anyU P md L.toArray tl Q D g C done a := by
  subst hg
  intro w hC
  have H := any_order (P := P) (md := md) (Q := Q) (i :: is) (g := is.length + 1) (by simp) hi hB (h w hC)
  have hit : i ∈ tl := by simpa using hit
  simp only [orderB, Bool.and_eq_true, decide_eq_true_eq] at hB
  refine ⟨fun h => (by rw [hB.1] at h; cases h), fun k hk => ?_⟩
  have hk2 := hk
  rw [hB.1] at hk2
  simp only [List.mem_cons, List.not_mem_nil, or_false] at hk2
  subst hk2
  exact wpOp_mono (fun a' w' h' => by unfold behind; rw [if_pos hit]; exact h') (H.2 k hk)
/-- nothing is left -/
theorem anyU_done {L : List Oper} {done : Array Bool} {a : Act} (hB : decide (Region.ready md L.toArray done = []) = true) (h : ∀ w, C w → Q .normal a w) : anyU P md L.toArray tl Q D 0 C done a := ⟨of_decide_eq_true hB, h⟩
theorem yieldsU_val {o : Oper} {a : Act} {v : Value} (hw : Region.wanted o (yielded ops a.tmps) = true) (h : ∀ w, C w → (execOp a.eval o).run P w = .ok (.value v) w) : YieldsU P ops C o v a := .inl ⟨hw, fun w hC => .inl (h w hC)⟩
theorem yieldsU_of_C {o : Oper} {a : Act} {v : Value} (h : YieldsC P ops C o v a) : YieldsU P ops C o v a := h.imp (fun h => ⟨h.1, fun w hC => .inl (h.2 w hC)⟩) id
theorem yieldsU_call {o : Oper} {a : Act} {v : Value} (hw : Region.wanted o (yielded ops a.tmps) = true) (f : FuncId) (args : Array Operand) (ts : Array TypeId) (ho : o.op = .call { callee := .value (.func f), args := args, argTypes := ts })
    (vals : Array Value) (hv : args.map a.eval = vals) (hf : ∀ u, (callFunc f vals).run P u = .ok (.enter f vals) u) (hc : ∀ u, C u → Calls P f vals u fun e u' => e = .returned v ∧ Below u.heap.size u u') : YieldsU P ops C o v a := by
  refine .inl ⟨hw, fun u hC => .inr ⟨f, vals, ?_, hc u hC⟩⟩
  simp [execOp, ho, resolve, Act.eval, Deferred.ofValue, invoke, hv, hf u]
end
theorem region_U {P : Program} {md : Region.Mode} {ops : Array Oper} {Q : Exit → Act → World → Prop} {D : World → Prop} (C : World → Prop) (tl : List Nat) {g : Nat} {listed : Array Bool} {a : Act} {w : World} (hC : C w) (h : anyU P md ops tl Q D g C listed a) : wpAny P md ops Q g listed a w := any_of_U g C listed a w hC h
theorem stable_below {n : Nat} {W : World} (h : n ≤ W.heap.size) : Stable (fun u => Below n W u) := fun u u' h1 h2 => h1.trans (h2.mono (Nat.le_trans h h1.size))
theorem Stable.and {A B : World → Prop} (h : Stable A) (k : Stable B) : Stable (fun u => A u ∧ B u) := fun u u' h1 h2 => ⟨h u u' h1.1 h2, k u u' h1.2 h2⟩
/-- the worlds in which all that lies in W is as it is there -/
def Ext (W u : World) : Prop := Below W.heap.size W u
theorem Ext.refl (W : World) : Ext W W := Below.refl _ _
theorem Ext.stable (W : World) : Stable (Ext W) := stable_below (Nat.le_refl _)
/-- the class begins anew in the world that is there -/
theorem anchor {P : Program} {md : Region.Mode} {ops : Array Oper} {Q : Exit → Act → World → Prop} {tl : List Nat} {g : Nat} {done : Array Bool} {a : Act} {W w1 : World} (h : Ext W w1) (H : anyU P md ops tl Q (Ext W) g (Ext w1) done a) :
    ∃ C' : World → Prop, (∀ u, C' u → Ext W u) ∧ Stable C' ∧ C' w1 ∧ anyU P md ops tl Q (Ext W) g C' done a :=
  ⟨Ext w1, fun u hu => h.trans (hu.mono h.size), Ext.stable _, Ext.refl _, H⟩
/-- .. with a class of one's own -/
theorem anchorF {P : Program} {md : Region.Mode} {ops : Array Oper} {Q : Exit → Act → World → Prop} {tl : List Nat} {g : Nat} {done : Array Bool} {a : Act} {D : World → Prop} {w1 : World} (F : World → Prop) (hD : ∀ u, F u → D u) (hs : Stable F) (hw : F w1) (H : anyU P md ops tl Q D g F done a) :
    ∃ C' : World → Prop, (∀ u, C' u → D u) ∧ Stable C' ∧ C' w1 ∧ anyU P md ops tl Q D g C' done a := ⟨F, hD, hs, hw, H⟩
theorem Ext.trans {A B E : World} (h : Ext A B) (k : Ext B E) : Ext A E := Below.trans h (Below.mono k (Below.size h))
theorem Ext.alloc {A B : World} (h : Ext A B) (o : Obj) : Ext A (B.alloc o) := h.trans ((Below.refl _ _).alloc (Nat.le_refl _) o)
theorem region_E {P : Program} {md : Region.Mode} {ops : Array Oper} {Q : Exit → Act → World → Prop} (tl : List Nat) {g : Nat} {listed : Array Bool} {a : Act} {w : World} (h : anyU P md ops tl Q (Ext w) g (Ext w) listed a) : wpAny P md ops Q g listed a w := region_U (Ext w) tl (Ext.refl w) h
end Go.Proofs.Ytilokkkodocoiaa
