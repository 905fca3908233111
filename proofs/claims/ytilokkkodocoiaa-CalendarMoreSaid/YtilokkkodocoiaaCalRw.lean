/- Own rows of rules and of gaps; parts of slices of them. -/
import Derived.Test.YtilokkkodocoiaaCalMm
import Derived.Test.YtilokkkodocoiaaCalApp
namespace Go.Proofs.Ytilokkkodocoiaa
open Go.RowKit
set_option linter.unusedVariables false
set_option linter.unusedSimpArgs false
theorem flat_len {α : Type} {f : α → List Value} {st : Nat} (hf : ∀ x, (f x).length = st) : ∀ (l : List α), (l.flatMap f).length = l.length * st
  | [] => by simp
  | x :: l => by rw [List.flatMap_cons, List.length_append, hf, flat_len hf l, List.length_cons, Nat.succ_mul]; omega
theorem flat_get {α : Type} {f : α → List Value} {st : Nat} {d : α} (hf : ∀ x, (f x).length = st) : ∀ {l : List α} {j i : Nat}, j < l.length → i < st → (l.flatMap f)[j * st + i]? = (f (l.getD j d))[i]?
  | [], j, i, hj, _ => by simp at hj
  | x :: l, 0, i, _, hi => by
    rw [List.flatMap_cons, Nat.zero_mul, Nat.zero_add, List.getElem?_append_left (by rw [hf]; exact hi)]; rfl
  | x :: l, j+1, i, hj, hi => by
    rw [List.flatMap_cons, List.getElem?_append_right (by rw [hf, Nat.succ_mul]; omega), hf, show (j + 1) * st + i - st = j * st + i by rw [Nat.succ_mul]; omega, flat_get hf (by simpa using hj) hi]; rfl
theorem getD_takeC {α : Type} {l : List α} {i j : Nat} {d : α} (h : j < i) : (l.take i).getD j d = l.getD j d := by
  rw [List.getD_eq_getElem?_getD, List.getD_eq_getElem?_getD, List.getElem?_take, if_pos h]
theorem getD_dropC {α : Type} {l : List α} {i j : Nat} {d : α} : (l.drop i).getD j d = l.getD (i + j) d := by
  rw [List.getD_eq_getElem?_getD, List.getD_eq_getElem?_getD, List.getElem?_drop]
def Rc (r : Rl) : List Value := [.int .i64 r.1, .int .i64 r.2.1, .int .i64 r.2.2]
theorem Rc_len (r : Rl) : (Rc r).length = 3 := rfl
theorem Rc_one (l : List Rl) : ∀ v ∈ l.flatMap Rc, v.oneCell' = true := by
  intro v hv
  obtain ⟨r, _, hr⟩ := List.mem_flatMap.1 hv
  simp only [Rc, List.mem_cons, List.not_mem_nil, or_false] at hr
  rcases hr with rfl | rfl | rfl <;> rfl
def OwnR (w : World) (B : Nat) (v : Value) (l : List Rl) : Prop := w.ownsRow B 40 3 v l.length (l.flatMap Rc)
theorem ownR_below {w w' : World} {B : Nat} {v : Value} {l : List Rl} (h : OwnR w B v l) (k : Below w.heap.size w w') : OwnR w' B v l := by
  refine World.ownsRow.kept (row := none) h ⟨k.os, k.tape, k.output, k.size, fun i hi _ => k.block i hi⟩ ?_
  cases hv : v.ownBlock with
  | none => exact .inl rfl
  | some b => exact .inr (by simp)
theorem bel_grownR {w0 w w' : World} {B : Nat} {v : Value} {l : List Rl} (k : Below B w0 w) (ho : OwnR w B v l) (hg : w.grownBy w' v.ownBlock) (hB : B ≤ w.heap.size) : Below B w0 w' :=
  k.trans ⟨hg.os, hg.tape, hg.output, hg.size, fun i hi => hg.block i (by omega) (by intro e; have := (World.ownsRow.lt ho) i e.symm; omega)⟩
theorem ownR_new {w : World} (B : Nat) (hB : B ≤ w.heap.size) : OwnR (w.alloc (.cells #[] 40)) B (.slice (some ⟨w.heap.size, 0, none⟩) 0 0) [] :=
  ⟨rfl, .inr ⟨w.heap.size, 0, #[], rfl, hB, World.alloc_heap_new _ _, Nat.le_refl _, by unfold maxLen; omega, rfl, rfl⟩⟩
theorem ownR_V {w : World} {B : Nat} {v : Value} {l : List Rl} (h : OwnR w B v l) (hr : ∀ r ∈ l, inI r.1 ∧ inI r.2.1 ∧ inI r.2.2) : ∃ p c, v = .slice p l.length c ∧ RulesV w p l.length c l := by
  obtain ⟨h1, h2⟩ := h
  rcases h2 with ⟨rfl, h0⟩ | ⟨g, cap, cur, rfl, hBg, hg, hn, hm, hs, ht⟩
  · exact ⟨none, 0, by rw [h0], ⟨rfl, by omega, by omega, fun _ => ⟨h0, rfl⟩, hr, .inl h0⟩⟩
  · refine ⟨_, _, rfl, ⟨rfl, hn, by unfold maxLen at hm; omega, (fun e => by cases e), hr, .inr ⟨g, 0, rfl, (Array.getElem?_eq_some_iff.1 hg).1, fun j hj => ?_⟩⟩⟩
    have key : ∀ i, i < 3 → w.cell? ⟨g, 0 + j * 3 + i, none⟩ = (Rc (l.getD j rl0))[i]? := by
      intro i hi
      have h3 : (cur.toList.take (l.length * 3))[j * 3 + i]? = (l.flatMap Rc)[j * 3 + i]? := by rw [ht]
      rw [List.getElem?_take, if_pos (by omega), flat_get (st := 3) (d := rl0) Rc_len hj hi] at h3
      simp only [World.cell?, hg, Nat.zero_add]
      rw [← h3, Array.getElem?_toList]
      cases cur[j * 3 + i]? <;> rfl
    exact ⟨key 0 (by omega), key 1 (by omega), key 2 (by omega)⟩
theorem infoR : (Try.prog.info? 40).map (fun i => (i.zero, i.size, i.bytes)) = some (some (.agg #[.int .i64 0, .int .i64 0, .int .i64 0]), 3, 24) := by kernel_rfl
theorem appR {ops : Array Oper} {rest : List Oper} {o : Oper} {a : Act} {w : World} {Q : Exit → Act → World → Prop} (hgd : o.guard = none) (s x : Operand)
    (ho : o.op = .call { callee := .builtin .append, args := #[s, x], argTypes := #[22, 22] }) (B : Nat) (v : Value) (xs : List Rl) (hs : a.eval s = v) (hown : OwnR w B v xs)
    (p : Option Addr) (m c : Nat) (zs : List Rl) (hx : a.eval x = .slice p m c) (hz : RulesV w p m c zs) (hlen : xs.length + zs.length ≤ 2000000000) (hB : B ≤ w.heap.size)
    (h : ∀ v' w', OwnR w' B v' (xs ++ zs) → w.grownBy w' v.ownBlock → wpList Try.prog ops Q rest (a.put o.dst v') w') : wpList Try.prog ops Q (o :: rest) a w := by
  obtain ⟨i0, hi, hz0, hz1, hz2⟩ := info_parts infoR
  have hm := hz.len
  have fin : ∀ v' w', w'.ownsRow B 40 3 v' (xs.length + m) (xs.flatMap Rc ++ zs.flatMap Rc) → w.grownBy w' v.ownBlock → wpList Try.prog ops Q rest (a.put o.dst v') w' := fun v' w' h1 h2 => by
    refine h v' w' ?_ h2
    unfold OwnR
    rw [List.length_append, List.flatMap_append, ← hm]
    exact h1
  cases hp : p with
  | none =>
    obtain ⟨h0, hc0⟩ := hz.nn hp
    have hzs : zs = [] := List.eq_nil_of_length_eq_zero (by omega)
    subst hzs h0 hc0 hp
    refine wpList_append_own_none hgd s x 22 ho B 40 i0 3 Try.underlying22 hi v xs.length (xs.flatMap Rc) hs hown hx ?_
    exact h v w (by rw [List.append_nil]; exact hown) (gr_refl _ _)
  | some ad =>
    subst hp
    refine wpList_append_own _ hgd s x 22 ho B 40 i0 (.agg #[.int .i64 0, .int .i64 0, .int .i64 0]) 3 24 Try.underlying22 hi hz0 hz1 hz2 rfl (by decide) v xs.length (xs.flatMap Rc) hs hown ad m c (zs.flatMap Rc) hx (by rw [flat_len Rc_len]; omega) ?_ (Rc_one zs) (by unfold maxLen; omega) (by omega) hB (fun v' w' h1 h2 _ => fin v' w' h1 h2)
    intro j u hj
    have hj' : j < zs.length * 3 := by
      have := (List.getElem?_eq_some_iff.1 hj).1
      rwa [flat_len Rc_len] at this
    rcases hz.row with h0 | ⟨b, off, e, hb, hc⟩
    · omega
    · cases e
      have e1 : j = j / 3 * 3 + j % 3 := by omega
      have e2 : j % 3 < 3 := by omega
      have hcj := hc (j / 3) (by omega)
      rw [e1, flat_get (st := 3) (d := rl0) Rc_len (by omega) e2] at hj
      rw [Addr.add_mid, show off + j = off + j / 3 * 3 + j % 3 by omega]
      generalize j / 3 = q at hj hcj ⊢
      generalize j % 3 = i at hj e2 ⊢
      clear e1 hj'
      have hi3 : i = 0 ∨ i = 1 ∨ i = 2 := by omega
      rcases hi3 with rfl | rfl | rfl
      · have hj : some (.int .i64 (zs.getD q rl0).1) = some u := hj
        rw [← hj]; exact hcj.1
      · have hj : some (.int .i64 (zs.getD q rl0).2.1) = some u := hj
        rw [← hj]; exact hcj.2.1
      · have hj : some (.int .i64 (zs.getD q rl0).2.2) = some u := hj
        rw [← hj]; exact hcj.2.2
theorem RulesV.take {w : World} {p : Option Addr} {n c : Nat} {l : List Rl} (h : RulesV w p n c l) {i : Nat} (hi : i ≤ n) : RulesV w p i c (l.take i) := by
  have hl := h.len
  refine ⟨by rw [List.length_take]; omega, by have := h.nc; omega, h.cm, fun e => ⟨by have := (h.nn e).1; omega, (h.nn e).2⟩, fun r hr => h.rng r (List.mem_of_mem_take hr), ?_⟩
  rcases h.row with h0 | ⟨b, off, e, hb, hc⟩
  · exact .inl (by omega)
  · refine .inr ⟨b, off, e, hb, fun j hj => ?_⟩
    rw [List.length_take] at hj
    rw [getD_takeC (by omega)]
    exact hc j (by omega)
theorem RulesV.drop {w : World} {b off n c : Nat} {l : List Rl} (h : RulesV w (some ⟨b, off, none⟩) n c l) {i : Nat} (hi : i < n) : ∃ p2, ((c = i + 1 ∧ p2 = some ⟨b, off, none⟩) ∨ (¬ c = i + 1 ∧ p2 = some ⟨b, off + (i + 1) * 3, none⟩)) ∧ RulesV w p2 (n - (i + 1)) (c - (i + 1)) (l.drop (i + 1)) := by
  have hl := h.len
  have hnc := h.nc
  have hcm := h.cm
  by_cases hc1 : c = i + 1
  · exact ⟨_, .inl ⟨hc1, rfl⟩, ⟨by rw [List.length_drop]; omega, by omega, by omega, (fun e => by cases e), fun r hr => h.rng r (List.mem_of_mem_drop hr), .inl (by omega)⟩⟩
  · refine ⟨_, .inr ⟨hc1, rfl⟩, ⟨by rw [List.length_drop]; omega, by omega, by omega, (fun e => by cases e), fun r hr => h.rng r (List.mem_of_mem_drop hr), ?_⟩⟩
    rcases h.row with h0 | ⟨b', off', e, hb, hc⟩
    · omega
    · cases e
      refine .inr ⟨b, off + (i + 1) * 3, rfl, hb, fun j hj => ?_⟩
      rw [List.length_drop] at hj
      rw [getD_dropC]
      have := hc (i + 1 + j) (by omega)
      rw [show off + (i + 1 + j) * 3 = off + (i + 1) * 3 + j * 3 by rw [Nat.add_mul]; omega] at this
      exact this
def Gc (r : Gp) : List Value := [.int .i64 r.1, .int .i64 r.2]
theorem Gc_len (r : Gp) : (Gc r).length = 2 := rfl
theorem Gc_one (l : List Gp) : ∀ v ∈ l.flatMap Gc, v.oneCell' = true := by
  intro v hv
  obtain ⟨r, _, hr⟩ := List.mem_flatMap.1 hv
  simp only [Gc, List.mem_cons, List.not_mem_nil, or_false] at hr
  rcases hr with rfl | rfl <;> rfl
def OwnG (w : World) (B : Nat) (v : Value) (l : List Gp) : Prop := w.ownsRow B 37 2 v l.length (l.flatMap Gc)
theorem ownG_below {w w' : World} {B : Nat} {v : Value} {l : List Gp} (h : OwnG w B v l) (k : Below w.heap.size w w') : OwnG w' B v l := by
  refine World.ownsRow.kept (row := none) h ⟨k.os, k.tape, k.output, k.size, fun i hi _ => k.block i hi⟩ ?_
  cases hv : v.ownBlock with
  | none => exact .inl rfl
  | some b => exact .inr (by simp)
theorem bel_grownG {w0 w w' : World} {B : Nat} {v : Value} {l : List Gp} (k : Below B w0 w) (ho : OwnG w B v l) (hg : w.grownBy w' v.ownBlock) (hB : B ≤ w.heap.size) : Below B w0 w' :=
  k.trans ⟨hg.os, hg.tape, hg.output, hg.size, fun i hi => hg.block i (by omega) (by intro e; have := (World.ownsRow.lt ho) i e.symm; omega)⟩
theorem ownG_new {w : World} (B : Nat) (hB : B ≤ w.heap.size) : OwnG (w.alloc (.cells #[] 37)) B (.slice (some ⟨w.heap.size, 0, none⟩) 0 0) [] :=
  ⟨rfl, .inr ⟨w.heap.size, 0, #[], rfl, hB, World.alloc_heap_new _ _, Nat.le_refl _, by unfold maxLen; omega, rfl, rfl⟩⟩
theorem ownG_V {w : World} {B : Nat} {v : Value} {l : List Gp} (h : OwnG w B v l) (hr : ∀ r ∈ l, inI r.1 ∧ inI r.2) : ∃ p c, v = .slice p l.length c ∧ GapsV w p l.length c l := by
  obtain ⟨h1, h2⟩ := h
  rcases h2 with ⟨rfl, h0⟩ | ⟨g, cap, cur, rfl, hBg, hg, hn, hm, hs, ht⟩
  · exact ⟨none, 0, by rw [h0], ⟨rfl, by omega, by omega, fun _ => ⟨h0, rfl⟩, hr, .inl h0⟩⟩
  · refine ⟨_, _, rfl, ⟨rfl, hn, by unfold maxLen at hm; omega, (fun e => by cases e), hr, .inr ⟨g, 0, rfl, (Array.getElem?_eq_some_iff.1 hg).1, fun j hj => ?_⟩⟩⟩
    have key : ∀ i, i < 2 → w.cell? ⟨g, 0 + j * 2 + i, none⟩ = (Gc (l.getD j gp0))[i]? := by
      intro i hi
      have h3 : (cur.toList.take (l.length * 2))[j * 2 + i]? = (l.flatMap Gc)[j * 2 + i]? := by rw [ht]
      rw [List.getElem?_take, if_pos (by omega), flat_get (st := 2) (d := gp0) Gc_len hj hi] at h3
      simp only [World.cell?, hg, Nat.zero_add]
      rw [← h3, Array.getElem?_toList]
      cases cur[j * 2 + i]? <;> rfl
    exact ⟨key 0 (by omega), key 1 (by omega)⟩
theorem infoG : (Try.prog.info? 37).map (fun i => (i.zero, i.size, i.bytes)) = some (some (.agg #[.int .i64 0, .int .i64 0]), 2, 16) := by kernel_rfl
theorem appG {ops : Array Oper} {rest : List Oper} {o : Oper} {a : Act} {w : World} {Q : Exit → Act → World → Prop} (hgd : o.guard = none) (s x : Operand)
    (ho : o.op = .call { callee := .builtin .append, args := #[s, x], argTypes := #[23, 23] }) (B : Nat) (v : Value) (xs : List Gp) (hs : a.eval s = v) (hown : OwnG w B v xs)
    (p : Option Addr) (m c : Nat) (zs : List Gp) (hx : a.eval x = .slice p m c) (hz : GapsV w p m c zs) (hlen : xs.length + zs.length ≤ 2000000000) (hB : B ≤ w.heap.size)
    (h : ∀ v' w', OwnG w' B v' (xs ++ zs) → w.grownBy w' v.ownBlock → wpList Try.prog ops Q rest (a.put o.dst v') w') : wpList Try.prog ops Q (o :: rest) a w := by
  obtain ⟨i0, hi, hz0, hz1, hz2⟩ := info_parts infoG
  have hm := hz.len
  have fin : ∀ v' w', w'.ownsRow B 37 2 v' (xs.length + m) (xs.flatMap Gc ++ zs.flatMap Gc) → w.grownBy w' v.ownBlock → wpList Try.prog ops Q rest (a.put o.dst v') w' := fun v' w' h1 h2 => by
    refine h v' w' ?_ h2
    unfold OwnG
    rw [List.length_append, List.flatMap_append, ← hm]
    exact h1
  cases hp : p with
  | none =>
    obtain ⟨h0, hc0⟩ := hz.nn hp
    have hzs : zs = [] := List.eq_nil_of_length_eq_zero (by omega)
    subst hzs h0 hc0 hp
    refine wpList_append_own_none hgd s x 23 ho B 37 i0 2 Try.underlying23 hi v xs.length (xs.flatMap Gc) hs hown hx ?_
    exact h v w (by rw [List.append_nil]; exact hown) (gr_refl _ _)
  | some ad =>
    subst hp
    refine wpList_append_own _ hgd s x 23 ho B 37 i0 (.agg #[.int .i64 0, .int .i64 0]) 2 16 Try.underlying23 hi hz0 hz1 hz2 rfl (by decide) v xs.length (xs.flatMap Gc) hs hown ad m c (zs.flatMap Gc) hx (by rw [flat_len Gc_len]; omega) ?_ (Gc_one zs) (by unfold maxLen; omega) (by omega) hB (fun v' w' h1 h2 _ => fin v' w' h1 h2)
    intro j u hj
    have hj' : j < zs.length * 2 := by
      have := (List.getElem?_eq_some_iff.1 hj).1
      rwa [flat_len Gc_len] at this
    rcases hz.row with h0 | ⟨b, off, e, hb, hc⟩
    · omega
    · cases e
      have e1 : j = j / 2 * 2 + j % 2 := by omega
      have e2 : j % 2 < 2 := by omega
      have hcj := hc (j / 2) (by omega)
      rw [e1, flat_get (st := 2) (d := gp0) Gc_len (by omega) e2] at hj
      rw [Addr.add_mid, show off + j = off + j / 2 * 2 + j % 2 by omega]
      generalize j / 2 = q at hj hcj ⊢
      generalize j % 2 = i at hj e2 ⊢
      clear e1 hj'
      have hi3 : i = 0 ∨ i = 1 := by omega
      rcases hi3 with rfl | rfl
      · have hj : some (.int .i64 (zs.getD q gp0).1) = some u := hj
        rw [← hj]; exact hcj.1
      · have hj : some (.int .i64 (zs.getD q gp0).2) = some u := hj
        rw [← hj]; exact hcj.2
theorem GapsV.take {w : World} {p : Option Addr} {n c : Nat} {l : List Gp} (h : GapsV w p n c l) {i : Nat} (hi : i ≤ n) : GapsV w p i c (l.take i) := by
  have hl := h.len
  refine ⟨by rw [List.length_take]; omega, by have := h.nc; omega, h.cm, fun e => ⟨by have := (h.nn e).1; omega, (h.nn e).2⟩, fun r hr => h.rng r (List.mem_of_mem_take hr), ?_⟩
  rcases h.row with h0 | ⟨b, off, e, hb, hc⟩
  · exact .inl (by omega)
  · refine .inr ⟨b, off, e, hb, fun j hj => ?_⟩
    rw [List.length_take] at hj
    rw [getD_takeC (by omega)]
    exact hc j (by omega)
theorem GapsV.drop {w : World} {b off n c : Nat} {l : List Gp} (h : GapsV w (some ⟨b, off, none⟩) n c l) {i : Nat} (hi : i < n) : ∃ p2, ((c = i + 1 ∧ p2 = some ⟨b, off, none⟩) ∨ (¬ c = i + 1 ∧ p2 = some ⟨b, off + (i + 1) * 2, none⟩)) ∧ GapsV w p2 (n - (i + 1)) (c - (i + 1)) (l.drop (i + 1)) := by
  have hl := h.len
  have hnc := h.nc
  have hcm := h.cm
  by_cases hc1 : c = i + 1
  · exact ⟨_, .inl ⟨hc1, rfl⟩, ⟨by rw [List.length_drop]; omega, by omega, by omega, (fun e => by cases e), fun r hr => h.rng r (List.mem_of_mem_drop hr), .inl (by omega)⟩⟩
  · refine ⟨_, .inr ⟨hc1, rfl⟩, ⟨by rw [List.length_drop]; omega, by omega, by omega, (fun e => by cases e), fun r hr => h.rng r (List.mem_of_mem_drop hr), ?_⟩⟩
    rcases h.row with h0 | ⟨b', off', e, hb, hc⟩
    · omega
    · cases e
      refine .inr ⟨b, off + (i + 1) * 2, rfl, hb, fun j hj => ?_⟩
      rw [List.length_drop] at hj
      rw [getD_dropC]
      have := hc (i + 1 + j) (by omega)
      rw [show off + (i + 1 + j) * 2 = off + (i + 1) * 2 + j * 2 by rw [Nat.add_mul]; omega] at this
      exact this
end Go.Proofs.Ytilokkkodocoiaa
