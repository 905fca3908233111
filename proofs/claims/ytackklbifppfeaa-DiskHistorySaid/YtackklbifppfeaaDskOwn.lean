/- Rows and pending writes that the walk has made itself. -/
import Derived.Test.YtackklbifppfeaaDsk
namespace Go.Proofs.Ytackklbifppfeaa
open Go.RowKit
set_option linter.unusedVariables false

def cellsS (r : Rw) : List Value := [r.v]
def cellsP (x : Wt) : List Value := [.int .i64 x.pos, x.row.v]
def rowS (l : List Rw) : List Value := (l.map cellsS).flatten
theorem rowS_cons (a : Rw) (l : List Rw) : rowS (a :: l) = cellsS a ++ rowS l := rfl
theorem rowS_snoc (l : List Rw) (a : Rw) : rowS (l ++ [a]) = rowS l ++ cellsS a := by simp [rowS]
theorem rowS_get : ∀ (l : List Rw) (k j : Nat), k < l.length → j < 1 → (rowS l)[k * 1 + j]? = (cellsS (l.getD k rw0))[j]?
  | [], k, j, hk, _ => by simp at hk
  | a :: l, 0, j, _, hj => by
    rw [rowS_cons, List.getElem?_append_left (by simp [cellsS] <;> omega)]; simp
  | a :: l, k + 1, j, hk, hj => by
    rw [rowS_cons, List.getElem?_append_right (by simp [cellsS] <;> omega)]
    have e : (k + 1) * 1 + j - (cellsS a).length = k * 1 + j := by simp [cellsS] <;> omega
    rw [e, rowS_get l k j (by simpa using hk) hj]; simp
def OwnS (w : World) (B : Nat) (v : Value) (l : List Rw) : Prop := w.ownsRow B 35 1 v l.length (rowS l)
theorem infoS : (Try.prog.info? 35).map (fun i => (i.zero, i.size, i.bytes)) = some (some (.slice none 0 0), 1, 24) := by kernel_rfl
theorem OwnS.below {w w' : World} {B : Nat} {v : Value} {l : List Rw} (h : OwnS w B v l) (k : Below w.heap.size w w') : OwnS w' B v l := by
  refine World.ownsRow.kept (row := none) h ⟨k.os, k.tape, k.output, k.size, fun i hi _ => k.block i hi⟩ ?_
  cases hv : v.ownBlock with
  | none => exact .inl rfl
  | some b => exact .inr (by simp)
theorem OwnS.slice {w : World} {B : Nat} {v : Value} {l : List Rw} (h : OwnS w B v l) (h0 : 0 < l.length) : ∃ g cap, v = .slice (some ⟨g, 0, none⟩) l.length cap ∧ l.length ≤ cap ∧ cap ≤ maxLen ∧ B ≤ g ∧ g < w.heap.size ∧ SecsAt w g 0 l := by
  have hown := h
  obtain ⟨h1, h2 | ⟨g, cap, cur, rfl, hBg, hg, hn, hm, hs, ht⟩⟩ := h
  · omega
  · refine ⟨g, cap, rfl, hn, hm, hBg, (Array.getElem?_eq_some_iff.1 hg).1, fun k hk => ?_⟩
    have each : ∀ j, j < 1 → ∀ u, (cellsS (l.getD k rw0))[j]? = some u → w.cell? ⟨g, 0 + k * 1 + j, none⟩ = some u := by
      intro j hj u hu
      have := World.ownsRow.cells hown (g := g) rfl (k * 1 + j) u ((rowS_get l k j hk hj).trans hu)
      rw [Addr.add_mid] at this
      rw [Nat.add_assoc]
      exact this
    have := each 0 (by omega) _ rfl
    simpa using this
theorem OwnS.set {w : World} {B b o : Nat} {v x : Value} {l : List Rw} (h : OwnS w B v l) (hb : b < B) : OwnS (w.setCell ⟨b, o, none⟩ x) B v l := by
  obtain ⟨h1, h2 | ⟨g, cap, cur, e1, e2, e3, e4⟩⟩ := h
  · exact ⟨h1, .inl h2⟩
  · exact ⟨h1, .inr ⟨g, cap, cur, e1, e2, (Below.heap_setCell w ⟨b, o, none⟩ x g (by show g ≠ b; omega)).trans e3, e4⟩⟩
/-- append of one element -/
theorem appS {ops : Array Oper} {rest : List Oper} {o : Oper} {a : Act} {w : World} {Q : Exit → Act → World → Prop} (hgd : o.guard = none) (s x : Operand)
    (ho : o.op = .call { callee := .builtin .append, args := #[s, x], argTypes := #[22, 22] }) (B : Nat) (v : Value) (l : List Rw) (hs : a.eval s = v) (hown : OwnS w B v l)
    (b : Nat) (at' : Rw) (hx : a.eval x = .slice (some ⟨b, 0, none⟩) 1 1) (hb : Blk w b (cellsS at').toArray 35) (hlen : l.length ≤ 1000000) (hB : B ≤ w.heap.size)
    (h : ∀ v' w', OwnS w' B v' (l ++ [at']) → w.grownBy w' v.ownBlock → wpList Try.prog ops Q rest (a.put o.dst v') w') : wpList Try.prog ops Q (o :: rest) a w := by
  obtain ⟨i0, hi, hz0, hz1, hz2⟩ := info_parts infoS
  refine wpList_append_own _ hgd s x 22 ho B 35 i0 (.slice none 0 0) 1 24 Try.underlying22 hi hz0 hz1 hz2 rfl (by decide) v l.length (rowS l) hs hown ⟨b, 0, none⟩ 1 1 (cellsS at') hx rfl ?_ ?_ (by unfold maxLen; omega) (by omega) hB ?_
  · intro j u hj
    rw [Addr.add_mid, Nat.zero_add, hb.cell j, List.getElem?_toArray]; exact hj
  · intro u hu
    simp only [cellsS, List.mem_cons, List.not_mem_nil, or_false] at hu
    rcases hu with rfl <;> rfl
  · intro v' w' h1 h2 _
    refine h v' w' ?_ h2
    unfold OwnS
    rw [List.length_append, rowS_snoc]
    exact h1
def rowP (l : List Wt) : List Value := (l.map cellsP).flatten
theorem rowP_cons (a : Wt) (l : List Wt) : rowP (a :: l) = cellsP a ++ rowP l := rfl
theorem rowP_snoc (l : List Wt) (a : Wt) : rowP (l ++ [a]) = rowP l ++ cellsP a := by simp [rowP]
theorem rowP_get : ∀ (l : List Wt) (k j : Nat), k < l.length → j < 2 → (rowP l)[k * 2 + j]? = (cellsP (l.getD k wt0))[j]?
  | [], k, j, hk, _ => by simp at hk
  | a :: l, 0, j, _, hj => by
    rw [rowP_cons, List.getElem?_append_left (by simp [cellsP] <;> omega)]; simp
  | a :: l, k + 1, j, hk, hj => by
    rw [rowP_cons, List.getElem?_append_right (by simp [cellsP] <;> omega)]
    have e : (k + 1) * 2 + j - (cellsP a).length = k * 2 + j := by simp [cellsP] <;> omega
    rw [e, rowP_get l k j (by simpa using hk) hj]; simp
def OwnP (w : World) (B : Nat) (v : Value) (l : List Wt) : Prop := w.ownsRow B 54 2 v l.length (rowP l)
theorem infoP : (Try.prog.info? 54).map (fun i => (i.zero, i.size, i.bytes)) = some (some (.agg #[.int .i64 0, .slice none 0 0]), 2, 32) := by kernel_rfl
theorem OwnP.below {w w' : World} {B : Nat} {v : Value} {l : List Wt} (h : OwnP w B v l) (k : Below w.heap.size w w') : OwnP w' B v l := by
  refine World.ownsRow.kept (row := none) h ⟨k.os, k.tape, k.output, k.size, fun i hi _ => k.block i hi⟩ ?_
  cases hv : v.ownBlock with
  | none => exact .inl rfl
  | some b => exact .inr (by simp)
theorem OwnP.slice {w : World} {B : Nat} {v : Value} {l : List Wt} (h : OwnP w B v l) (h0 : 0 < l.length) : ∃ g cap, v = .slice (some ⟨g, 0, none⟩) l.length cap ∧ l.length ≤ cap ∧ cap ≤ maxLen ∧ B ≤ g ∧ g < w.heap.size ∧ WtsAt w g 0 l := by
  have hown := h
  obtain ⟨h1, h2 | ⟨g, cap, cur, rfl, hBg, hg, hn, hm, hs, ht⟩⟩ := h
  · omega
  · refine ⟨g, cap, rfl, hn, hm, hBg, (Array.getElem?_eq_some_iff.1 hg).1, fun k hk => ?_⟩
    have each : ∀ j, j < 2 → ∀ u, (cellsP (l.getD k wt0))[j]? = some u → w.cell? ⟨g, 0 + k * 2 + j, none⟩ = some u := by
      intro j hj u hu
      have := World.ownsRow.cells hown (g := g) rfl (k * 2 + j) u ((rowP_get l k j hk hj).trans hu)
      rw [Addr.add_mid] at this
      rw [Nat.add_assoc]
      exact this
    exact ⟨each 0 (by omega) _ rfl, each 1 (by omega) _ rfl⟩
theorem OwnP.set {w : World} {B b o : Nat} {v x : Value} {l : List Wt} (h : OwnP w B v l) (hb : b < B) : OwnP (w.setCell ⟨b, o, none⟩ x) B v l := by
  obtain ⟨h1, h2 | ⟨g, cap, cur, e1, e2, e3, e4⟩⟩ := h
  · exact ⟨h1, .inl h2⟩
  · exact ⟨h1, .inr ⟨g, cap, cur, e1, e2, (Below.heap_setCell w ⟨b, o, none⟩ x g (by show g ≠ b; omega)).trans e3, e4⟩⟩
/-- append of one element -/
theorem appP {ops : Array Oper} {rest : List Oper} {o : Oper} {a : Act} {w : World} {Q : Exit → Act → World → Prop} (hgd : o.guard = none) (s x : Operand)
    (ho : o.op = .call { callee := .builtin .append, args := #[s, x], argTypes := #[23, 23] }) (B : Nat) (v : Value) (l : List Wt) (hs : a.eval s = v) (hown : OwnP w B v l)
    (b : Nat) (at' : Wt) (hx : a.eval x = .slice (some ⟨b, 0, none⟩) 1 1) (hb : Blk w b (cellsP at').toArray 54) (hlen : l.length ≤ 1000000) (hB : B ≤ w.heap.size)
    (h : ∀ v' w', OwnP w' B v' (l ++ [at']) → w.grownBy w' v.ownBlock → wpList Try.prog ops Q rest (a.put o.dst v') w') : wpList Try.prog ops Q (o :: rest) a w := by
  obtain ⟨i0, hi, hz0, hz1, hz2⟩ := info_parts infoP
  refine wpList_append_own _ hgd s x 23 ho B 54 i0 (.agg #[.int .i64 0, .slice none 0 0]) 2 32 Try.underlying23 hi hz0 hz1 hz2 rfl (by decide) v l.length (rowP l) hs hown ⟨b, 0, none⟩ 1 1 (cellsP at') hx rfl ?_ ?_ (by unfold maxLen; omega) (by omega) hB ?_
  · intro j u hj
    rw [Addr.add_mid, Nat.zero_add, hb.cell j, List.getElem?_toArray]; exact hj
  · intro u hu
    simp only [cellsP, List.mem_cons, List.not_mem_nil, or_false] at hu
    rcases hu with rfl | rfl <;> rfl
  · intro v' w' h1 h2 _
    refine h v' w' ?_ h2
    unfold OwnP
    rw [List.length_append, rowP_snoc]
    exact h1
end Go.Proofs.Ytackklbifppfeaa
