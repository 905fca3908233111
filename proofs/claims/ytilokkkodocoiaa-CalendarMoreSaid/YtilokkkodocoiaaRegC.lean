/- A region that draws its order, walked with a class of worlds that every step keeps: an operation that yields the same in all worlds of the class is taken first, wherever the order puts it. -/
import Derived.Test.YtilokkkodocoiaaRegStep
namespace Go.Proofs.Ytilokkkodocoiaa
open Go
set_option linter.unusedVariables false

section
variable {P : Program} {md : Region.Mode} {ops : Array Oper} {Q : Exit → Act → World → Prop} {C : World → Prop} {tl : List Nat}
/-- behind the step i: plainly, where i is one of the tail; else in the class -/
def behind (tl : List Nat) (i : Nat) (A B D : Prop) : Prop := if i ∈ tl then A else B ∧ D
/-- as wpAny, and every step that does not begin the tail ends in the class -/
def anyC (P : Program) (md : Region.Mode) (ops : Array Oper) (C : World → Prop) (tl : List Nat) (Q : Exit → Act → World → Prop) : Nat → Array Bool → Act → World → Prop
  | 0, listed, a, w => Region.ready md ops listed = [] ∧ Q .normal a w
  | g + 1, listed, a, w => (Region.ready md ops listed = [] → Q .normal a w) ∧
    ∀ i ∈ Region.ready md ops listed, wpOp P ops Q i (fun a' w' => behind tl i (wpAny P md ops Q g (listed.setIfInBounds i true) a' w') (C w') (anyC P md ops C tl Q g (listed.setIfInBounds i true) a' w')) a w
theorem any_of_C : ∀ (g : Nat) (listed : Array Bool) (a : Act) (w : World), anyC P md ops C tl Q g listed a w → wpAny P md ops Q g listed a w
  | 0, _, _, _, h => h
  | g + 1, listed, a, w, h => ⟨h.1, fun i hi => wpOp_mono (fun a' w' h' => by
      unfold behind at h'
      split at h'
      · exact h'
      · exact any_of_C g _ a' w' h'.2) (h.2 i hi)⟩
/-- yields in all worlds of the class -/
def YieldsC (P : Program) (ops : Array Oper) (C : World → Prop) (o : Oper) (v : Value) (a : Act) : Prop :=
  (Region.wanted o (yielded ops a.tmps) = true ∧ ∀ w, C w → (execOp a.eval o).run P w = .ok (.value v) w) ∨
  (Region.wanted o (yielded ops a.tmps) = false ∧ v = undef)
theorem YieldsC.wpOp {i : Nat} {o : Oper} {v : Value} {a : Act} (hi : ops[i]? = some o) (hy : YieldsC P ops C o v a)
    {K : Act → World → Prop} {w : World} (hC : C w) (h : K (a.put o.dst v) w) : wpOp P ops Q i K a w := by
  unfold Go.wpOp
  simp only [hi]
  rcases hy with ⟨hw, hv⟩ | ⟨hw, rfl⟩
  · simp only [hw, if_true, Oper.wp, hv w hC, Oper.upon]; exact .inl h
  · simp only [hw, Bool.false_eq_true, if_false]; exact h
theorem YieldsC.of_same {o : Oper} {v : Value} {a a' : Act} (hy : YieldsC P ops C o v a) (he : execOp a'.eval o = execOp a.eval o)
    (hw : Region.wanted o (yielded ops a'.tmps) = Region.wanted o (yielded ops a.tmps)) : YieldsC P ops C o v a' := by
  unfold YieldsC at *
  rw [he, hw]
  exact hy
theorem wpOp_putC {j : Nat} {oi oj : Oper} {v : Value} (hj : ops[j]? = some oj) (hap : oi.apart ops oj = true)
    (hsi : ∀ cs b, oi.op ≠ .select cs b) (hsj : ∀ cs b, oj.op ≠ .select cs b)
    (hQ : ∀ c a w, Q (.panic c) (a.put oi.dst v) w → Q (.panic c) a w) {K : Act → World → Prop} {a : Act} {w : World}
    (hy : YieldsC P ops C oi v a) (h : wpOp P ops Q j K (a.put oi.dst v) w) :
    wpOp P ops Q j (fun a' w' => YieldsC P ops C oi v a' ∧ K (a'.put oi.dst v) w') a w := by
  obtain ⟨h1, h2, h3⟩ := Oper.apart_spec hap
  have keep : ∀ (a : Act), YieldsC P ops C oi v a → ∀ u, YieldsC P ops C oi v (a.put oj.dst u) := fun a hy u =>
    hy.of_same (execOp_put oi hsi a oj.dst u h3) (wanted_put oi a oj.dst u h3)
  have keepD : ∀ d, YieldsC P ops C oi v { a with defers := d :: a.defers } := fun d => hy.of_same rfl rfl
  unfold wpOp at *
  simp only [hj] at *
  rw [wanted_put oj a oi.dst v h1] at h
  split
  · rename_i hw
    simp only [hw, if_true] at h
    rcases h with h | ⟨hasks, hlets⟩
    case inr => exact .inr ⟨by unfold Oper.asks at *; rw [execOp_put oj hsj a oi.dst v h1] at hasks; exact hasks, hlets⟩
    refine .inl ?_
    unfold Oper.wp at *
    rw [execOp_put oj hsj a oi.dst v h1] at h
    generalize (execOp a.eval oj).run P w = r at *
    cases r with
    | ok n w' =>
      cases n <;> simp only [Oper.upon] at h ⊢
      case value u => exact ⟨keep a hy u, by rw [← Act.put_comm a v u h2]; exact h⟩
      case skip => exact ⟨keep a hy _, by rw [← Act.put_comm a v undef h2]; exact h⟩
      case defer d =>
        refine ⟨keep _ (keepD d) _, ?_⟩
        rw [← Act.put_comm _ v undef h2, ← Act.put_defers]
        exact h
      case enter f args =>
        refine Calls.mono h fun e w'' he => ?_
        cases e with
        | returned u => exact ⟨keep a hy u, by rw [← Act.put_comm a v u h2]; exact he⟩
        | panicked c => exact hQ _ _ _ he
        | outgrown => exact he
      case row row args => exact Rows.mono h fun u w'' he => ⟨keep a hy u, by rw [← Act.put_comm a v u h2]; exact he⟩
    | halt x w' =>
      cases x <;> simp only [Oper.upon] at h ⊢
      case panic u => exact hQ _ _ _ h
  · rename_i hw
    simp only [hw] at h
    exact ⟨keep a hy _, by rw [← Act.put_comm a v undef h2]; exact h⟩
/-- must the operation i come before j? -/
def ancB (md : Region.Mode) (ops : Array Oper) : Nat → Nat → Nat → Bool
  | 0, _, _ => false
  | f + 1, j, i => match ops[j]? with
    | some oj => oj.after.any fun e => Region.binds md e && (e.on == i || ancB md ops f e.on i)
    | none => false
/-- what is listed has all listed that it waits for -/
def Closed (md : Region.Mode) (ops : Array Oper) (listed : Array Bool) : Prop := ∀ k ok, listed.getD k false = true → ops[k]? = some ok → ∀ e ∈ ok.after, Region.binds md e = true → listed.getD e.on false = true
def closedB (md : Region.Mode) (ops : Array Oper) (listed : Array Bool) : Bool := (List.range ops.size).all fun k => !listed.getD k false || match ops[k]? with
  | some ok => ok.after.all fun e => !Region.binds md e || listed.getD e.on false
  | none => true
theorem closedB_spec {listed : Array Bool} (h : closedB md ops listed = true) : Closed md ops listed := by
  intro k ok hk hok e he hb
  simp only [closedB, List.all_eq_true, List.mem_range] at h
  have h1 := h k (Array.getElem?_eq_some_iff.1 hok).1
  simp only [hk, hok, Bool.not_true, Bool.false_or] at h1
  have h2 := Array.all_eq_true_iff_forall_mem.1 h1 e he
  simpa [hb] using h2
theorem anc_listed {listed : Array Bool} (hc : Closed md ops listed) {i : Nat} : ∀ (f j : Nat), listed.getD j false = true → ancB md ops f j i = true → listed.getD i false = true
  | 0, _, _, h => by cases h
  | f + 1, j, hj, h => by
    unfold ancB at h
    split at h
    · rename_i oj hoj
      obtain ⟨e, he, hb⟩ := Array.any_eq_true'.1 h
      simp only [Bool.and_eq_true, Bool.or_eq_true, beq_iff_eq] at hb
      have h1 := hc j oj hj hoj e he hb.1
      rcases hb.2 with h2 | h2
      · rw [← h2]; exact h1
      · exact anc_listed hc f e.on h1 h2
    · cases h
theorem anc_ready {listed : Array Bool} (hc : Closed md ops listed) {i j f : Nat} (hj : j ∈ Region.ready md ops listed) (h : ancB md ops f j i = true) : listed.getD i false = true := by
  cases f with
  | zero => cases h
  | succ f =>
    obtain ⟨_, oj, hoj, hall⟩ := mem_ready.1 hj
    unfold ancB at h
    simp only [hoj] at h
    obtain ⟨e, he, hb⟩ := Array.any_eq_true'.1 h
    simp only [Bool.and_eq_true, Bool.or_eq_true, beq_iff_eq] at hb
    have h1 := hall e he hb.1
    rcases hb.2 with h2 | h2
    · rw [← h2]; exact h1
    · exact anc_listed hc f e.on h1 h2
theorem closed_set {listed : Array Bool} (hc : Closed md ops listed) {j : Nat} (hj : j ∈ Region.ready md ops listed) : Closed md ops (listed.setIfInBounds j true) := by
  intro k ok hk hok e he hb
  by_cases hjk : j = k
  · subst hjk
    obtain ⟨_, oj, hoj, hall⟩ := mem_ready.1 hj
    obtain rfl : ok = oj := Option.some.inj (hok.symm.trans hoj)
    exact getD_set_true (hall e he hb)
  · rw [getD_set_ne false hjk] at hk
    exact getD_set_true (hc k ok hk hok e he hb)
theorem anyC_first {i : Nat} {oi : Oper} {v : Value} (hi : ops[i]? = some oi) (hsel : ∀ (j : Nat) (o : Oper) cs b, ops[j]? = some o → o.op ≠ .select cs b)
    (hQ : ∀ c a w, Q (.panic c) (a.put oi.dst v) w → Q (.panic c) a w) (hit : i ∉ tl) (f : Nat) (htl : ∀ j ∈ tl, ancB md ops f j i = true) :
    ∀ (fuel : Nat) (listed : Array Bool) (a : Act) (w : World),
      (∀ j oj, ops[j]? = some oj → j ≠ i → listed.getD j true = false → (∀ e ∈ oj.after, Region.binds md e = true → e.on ≠ i) → oi.apart ops oj = true) →
      i ∈ Region.ready md ops listed → Closed md ops listed → YieldsC P ops C oi v a → C w →
      anyC P md ops C tl Q fuel (listed.setIfInBounds i true) (a.put oi.dst v) w → anyC P md ops C tl Q (fuel + 1) listed a w := by
  intro fuel
  induction fuel with
  | zero =>
    intro listed a w _ hr hcl hy hC H
    refine ⟨fun h => (by rw [h] at hr; cases hr), fun j hj => ?_⟩
    by_cases hji : j = i
    · subst hji; exact hy.wpOp hi hC (by unfold behind; rw [if_neg hit]; exact ⟨hC, H⟩)
    · have := ready_mono hj hji
      rw [H.1] at this
      cases this
  | succ fuel ih =>
    intro listed a w hfree hr hcl hy hC H
    refine ⟨fun h => (by rw [h] at hr; cases hr), fun j hj => ?_⟩
    by_cases hji : j = i
    · subst hji; exact hy.wpOp hi hC (by unfold behind; rw [if_neg hit]; exact ⟨hC, H⟩)
    · have h1 := H.2 j (ready_mono hj hji)
      obtain ⟨hjun, oj, hoj, hall⟩ := mem_ready.1 hj
      have hnot : ∀ e ∈ oj.after, Region.binds md e = true → e.on ≠ i := fun e he hb heq => by
        have h1 := hall e he hb
        have h0 := (mem_ready.1 hr).1
        rw [heq] at h1
        rcases Nat.lt_or_ge i listed.size with h' | h'
        · simp [h'] at h0 h1; rw [h0] at h1; cases h1
        · simp [Array.getElem?_eq_none h'] at h1
      have hjt : j ∉ tl := fun hm => by
        have h1 := anc_ready hcl hj (htl j hm)
        have h0 := (mem_ready.1 hr).1
        rcases Nat.lt_or_ge i listed.size with h' | h'
        · simp [h'] at h0 h1; rw [h0] at h1; cases h1
        · simp [Array.getElem?_eq_none h'] at h1
      have h1 := wpOp_mono (fun a' w' h' => by unfold behind at h'; rw [if_neg hjt] at h'; exact h') h1
      have h2 := wpOp_putC hoj (hfree j oj hoj hji hjun hnot) (fun cs b => hsel i oi cs b hi) (fun cs b => hsel j oj cs b hoj) hQ hy h1
      have hfree' : ∀ k ok, ops[k]? = some ok → k ≠ i → (listed.setIfInBounds j true).getD k true = false →
          (∀ e ∈ ok.after, Region.binds md e = true → e.on ≠ i) → oi.apart ops ok = true := fun k ok hk hki hun hno => by
        refine hfree k ok hk hki ?_ hno
        by_cases hjk : j = k
        · subst hjk; exact hjun
        · rw [getD_set_ne true hjk] at hun; exact hun
      refine wpOp_mono (fun a' w' h3 => by unfold behind; rw [if_neg hjt]; exact ⟨h3.2.1, ih (listed.setIfInBounds j true) a' w' hfree' (ready_mono hr (Ne.symm hji)) (closed_set hcl hj) h3.1 h3.2.1 (by rw [Array.setIfInBounds_comm _ _ hji]; exact h3.2.2)⟩) h2
def tlB (md : Region.Mode) (ops : Array Oper) (tl : List Nat) (listed : Array Bool) (i : Nat) : Bool := !tl.contains i && (closedB md ops listed && tl.all fun j => ancB md ops ops.size j i)
theorem tlB_spec {i : Nat} {listed : Array Bool} (h : tlB md ops tl listed i = true) : i ∉ tl ∧ Closed md ops listed ∧ ∀ j ∈ tl, ancB md ops ops.size j i = true := by
  simp only [tlB, Bool.and_eq_true, Bool.not_eq_true', List.all_eq_true] at h
  exact ⟨fun hm => by have := h.1; simp [hm] at this, closedB_spec h.2.1, h.2.2⟩
theorem anyC_take {i : Nat} {oi : Oper} {v : Value} {fuel : Nat} {listed : Array Bool} {a : Act} {w : World} (hi : ops[i]? = some oi)
    (hs : Region.noSelect ops = true) (hf : Region.free md ops listed i = true) (hr : (Region.ready md ops listed).contains i = true)
    (hQ : ∀ c a w, Q (.panic c) (a.put oi.dst v) w → Q (.panic c) a w) (ht : tlB md ops tl listed i = true) (hC : C w) (hy : YieldsC P ops C oi v a)
    (h : anyC P md ops C tl Q fuel (listed.setIfInBounds i true) (a.put oi.dst v) w) : anyC P md ops C tl Q (fuel + 1) listed a w :=
  anyC_first hi (Region.noSelect_spec hs) hQ (tlB_spec ht).1 _ (tlB_spec ht).2.2 fuel listed a w (Region.free_spec hi hf) (by simpa using hr) (tlB_spec ht).2.1 hy hC h
/-- behind a step -/
def QC (P : Program) (md : Region.Mode) (ops : Array Oper) (C : World → Prop) (tl : List Nat) (Q : Exit → Act → World → Prop) (g : Nat) (done : Array Bool) (e : Exit) (a : Act) (w : World) : Prop :=
  match e with
  | .normal => C w ∧ anyC P md ops C tl Q g done a w
  | e => Q e a w
theorem upon_QC {o : Oper} {a : Act} {K : Act → World → Prop} {g : Nat} {d : Array Bool} {r : Result Next} (h : o.upon P a K (QC P md ops C tl Q g d) r) : o.upon P a K Q r := by
  cases r with
  | ok n w => cases n <;> exact h
  | halt x w => cases x <;> exact h
theorem wpOp_QC {i g : Nat} {d : Array Bool} {K : Act → World → Prop} {a : Act} {w : World} (h : wpOp P ops (QC P md ops C tl Q g d) i K a w) : wpOp P ops Q i K a w := by
  unfold wpOp at h ⊢
  split
  · rename_i ho; simp only [ho] at h; exact h
  · rename_i o ho
    simp only [ho] at h
    split
    · rename_i hw
      simp only [hw, if_true] at h
      rcases h with h | ⟨h1, h2⟩
      · exact .inl (upon_QC h)
      · exact .inr ⟨h1, h2⟩
    · rename_i hw; simp only [hw] at h; exact h
/-- one step that must come next -/
theorem anyC_one {L : List Oper} (i : Nat) (g : Nat) {done : Array Bool} {a : Act} {w : World} (oi : Oper) (hi : L[i]? = some oi) (hit : tl.contains i = false) (hB : decide (Region.ready md L.toArray done = [i]) = true)
    (h1 : wpList P L.toArray (QC P md L.toArray C tl Q g (done.setIfInBounds i true)) [oi] a w) : anyC P md L.toArray C tl Q (g + 1) done a w := by
  have hB := of_decide_eq_true hB
  refine ⟨fun h => (by rw [hB] at h; cases h), fun k hk => ?_⟩
  rw [hB] at hk
  simp only [List.mem_cons, List.not_mem_nil, or_false] at hk
  subst hk
  have hw : wpOp P L.toArray (QC P md L.toArray C tl Q g (done.setIfInBounds k true)) k (wpList P L.toArray (QC P md L.toArray C tl Q g (done.setIfInBounds k true)) []) a w := by unfold wpOp; simp only [List.getElem?_toArray, hi]; exact h1
  have hit : k ∉ tl := fun h => by simp [h] at hit
  exact wpOp_mono (fun a' w' h' => by unfold behind; rw [if_neg hit]; exact h') (wpOp_QC hw)
/-- two steps, each of which may come next -/
theorem anyC_two {L : List Oper} (i j : Nat) (g : Nat) {done : Array Bool} {a : Act} {w : World} (oi oj : Oper) (hi : L[i]? = some oi) (hj : L[j]? = some oj) (hit : tl.contains i = false) (hjt : tl.contains j = false) (hB : decide (Region.ready md L.toArray done = [i, j]) = true)
    (h1 : wpList P L.toArray (QC P md L.toArray C tl Q g (done.setIfInBounds i true)) [oi] a w) (h2 : wpList P L.toArray (QC P md L.toArray C tl Q g (done.setIfInBounds j true)) [oj] a w) : anyC P md L.toArray C tl Q (g + 1) done a w := by
  have hB := of_decide_eq_true hB
  refine ⟨fun h => (by rw [hB] at h; cases h), fun k hk => ?_⟩
  rw [hB] at hk
  simp only [List.mem_cons, List.not_mem_nil, or_false] at hk
  rcases hk with rfl | rfl
  · have hw : wpOp P L.toArray (QC P md L.toArray C tl Q g (done.setIfInBounds k true)) k (wpList P L.toArray (QC P md L.toArray C tl Q g (done.setIfInBounds k true)) []) a w := by unfold wpOp; simp only [List.getElem?_toArray, hi]; exact h1
    have hit : k ∉ tl := fun h => by simp [h] at hit
    exact wpOp_mono (fun a' w' h' => by unfold behind; rw [if_neg hit]; exact h') (wpOp_QC hw)
  · have hw : wpOp P L.toArray (QC P md L.toArray C tl Q g (done.setIfInBounds k true)) k (wpList P L.toArray (QC P md L.toArray C tl Q g (done.setIfInBounds k true)) []) a w := by unfold wpOp; simp only [List.getElem?_toArray, hj]; exact h2
    have hjt : k ∉ tl := fun h => by simp [h] at hjt
    exact wpOp_mono (fun a' w' h' => by unfold behind; rw [if_neg hjt]; exact h') (wpOp_QC hw)
/-- the tail, in the one order that is left -/
theorem anyC_tail {L : List Oper} (i : Nat) (is : List Nat) {g : Nat} {done : Array Bool} {a : Act} {w : World} (hg : is.length + 1 = g) (hit : tl.contains i = true) (hi : ((i :: is).all fun i => decide (i < L.length)) = true) (hB : orderB md L.toArray (i :: is) done = true)
    (h : wpList P L.toArray Q ((i :: is).filterMap fun i => L[i]?) a w) : anyC P md L.toArray C tl Q g done a w := by
  subst hg
  have H := any_order (P := P) (md := md) (Q := Q) (i :: is) (g := is.length + 1) (by simp) hi hB h
  have hit : i ∈ tl := by simpa using hit
  simp only [orderB, Bool.and_eq_true, decide_eq_true_eq] at hB
  refine ⟨fun h => (by rw [hB.1] at h; cases h), fun k hk => ?_⟩
  have hk2 := hk
  rw [hB.1] at hk2
  simp only [List.mem_cons, List.not_mem_nil, or_false] at hk2
  subst hk2
  exact wpOp_mono (fun a' w' h' => by unfold behind; rw [if_pos hit]; exact h') (H.2 k hk)
/-- a load of a whole row yields in all worlds of the class -/
theorem yields_load {o : Oper} {a : Act} (hw : Region.wanted o (yielded ops a.tmps) = true) (ty : TypeId) (x : Operand) (ho : o.op = .load ty x) (b off : Nat) (hx : a.eval x = .pointer (some ⟨b, off, none⟩))
    (cs : List Value) (d : TypeDesc) (hc : ∀ u, C u → u.rangeAt b off cs) (hu : P.underlying ty = some d) (hd : d.isRow = true) (hi : (P.info? ty).map (·.size) = some cs.length) : YieldsC P ops C o (.agg cs.toArray) a := by
  refine .inl ⟨hw, fun u hC => ?_⟩
  unfold execOp
  simp only [ho, hx, Instr.loadAt, Instr.sureAddr, Sem.run_bind, Sem.run_pure, Result.andThen_ok, run_loadVar_mid u b off ty cs d (hc u hC) hu hd hi]
end
/-- a region that draws, with a class -/
theorem region_C {P : Program} {md : Region.Mode} {ops : Array Oper} {Q : Exit → Act → World → Prop} (C : World → Prop) (tl : List Nat) {g : Nat} {listed : Array Bool} {a : Act} {w : World} (h : anyC P md ops C tl Q g listed a w) : wpAny P md ops Q g listed a w := any_of_C g listed a w h
end Go.Proofs.Ytilokkkodocoiaa
