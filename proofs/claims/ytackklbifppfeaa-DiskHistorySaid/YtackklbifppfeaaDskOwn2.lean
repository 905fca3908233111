/- A whole slice of pending writes behind those that the walk has made. -/
import Derived.Test.YtackklbifppfeaaDskOwn
namespace Go.Proofs.Ytackklbifppfeaa
open Go.RowKit
set_option linter.unusedVariables false
set_option linter.unusedSimpArgs false

theorem rowP_len (l : List Wt) : (rowP l).length = l.length * 2 := by
  induction l with
  | nil => rfl
  | cons a l ih => rw [rowP_cons, List.length_append, ih]; simp [cellsP]; omega
theorem rowP_app (l m : List Wt) : rowP (l ++ m) = rowP l ++ rowP m := by simp [rowP]
theorem rowP_one (l : List Wt) : ∀ u ∈ rowP l, u.oneCell' = true := by
  intro u hu
  simp only [rowP, List.mem_flatten, List.mem_map] at hu
  obtain ⟨c, ⟨x, _, rfl⟩, h⟩ := hu
  simp only [cellsP, List.mem_cons, List.not_mem_nil, or_false] at h
  rcases h with rfl | rfl <;> rfl
theorem wts_src {w : World} {b off : Nat} {ws : List Wt} (h : WtsAt w b off ws) : ∀ j u, (rowP ws)[j]? = some u → w.cell? ((⟨b, off, none⟩ : Addr).add j) = some u := fun j u hj => by
  have hlt : j < (rowP ws).length := (List.getElem?_eq_some_iff.1 hj).1
  rw [rowP_len] at hlt
  obtain ⟨k, i, hi, rfl⟩ : ∃ k i, i < 2 ∧ j = k * 2 + i := ⟨j / 2, j % 2, by omega, by omega⟩
  have hk : k < ws.length := by omega
  rw [rowP_get ws k i hk hi] at hj
  obtain ⟨h0, h1⟩ := h k hk
  rw [Addr.add_mid]
  obtain rfl | rfl : i = 0 ∨ i = 1 := by omega
  · have e : ws.getD k wt0 = ws.getD k wt0 := rfl
    simp only [cellsP, List.getElem?_cons_zero, Option.some.injEq] at hj
    rw [← hj]; exact h0
  · simp only [cellsP, List.getElem?_cons_succ, List.getElem?_cons_zero, Option.some.injEq] at hj
    rw [← hj, ← Nat.add_assoc]; exact h1
theorem appPs {ops : Array Oper} {rest : List Oper} {o : Oper} {a : Act} {w : World} {Q : Exit → Act → World → Prop} (hgd : o.guard = none) (s x : Operand)
    (ho : o.op = .call { callee := .builtin .append, args := #[s, x], argTypes := #[23, 23] }) (B : Nat) (v : Value) (l : List Wt) (hs : a.eval s = v) (hown : OwnP w B v l)
    (p : Option Addr) (n cap : Nat) (ws : List Wt) (hx : a.eval x = .slice p n cap) (hz : WtsV w p n ws) (hp : p = none → n = 0 ∧ cap = 0) (hlen : l.length + n ≤ 1000000) (hB : B ≤ w.heap.size)
    (h : ∀ v' w', OwnP w' B v' (l ++ ws) → w.grownBy w' v.ownBlock → wpList Try.prog ops Q rest (a.put o.dst v') w') : wpList Try.prog ops Q (o :: rest) a w := by
  obtain ⟨i0, hi, hz0, hz1, hz2⟩ := info_parts infoP
  have hn := hz.1
  cases p with
  | none =>
    obtain ⟨rfl, rfl⟩ := hp rfl
    obtain rfl : ws = [] := List.eq_nil_of_length_eq_zero hn.symm
    refine wpList_append_own_none hgd s x 23 ho B 54 i0 2 Try.underlying23 hi v l.length (rowP l) hs hown hx ?_
    exact h v w (by simpa using hown) (gr_refl _ _)
  | some ad =>
    have hsrc : ∀ j u, (rowP ws)[j]? = some u → w.cell? (ad.add j) = some u := by
      rcases hz.2.2.2 with h0 | ⟨b, off, e, hb, hc⟩
      · obtain rfl : ws = [] := List.eq_nil_of_length_eq_zero (by omega)
        intro j u hj; simp [rowP] at hj
      · cases e; exact wts_src hc
    refine wpList_append_own _ hgd s x 23 ho B 54 i0 (.agg #[.int .i64 0, .slice none 0 0]) 2 32 Try.underlying23 hi hz0 hz1 hz2 rfl (by decide) v l.length (rowP l) hs hown ad n cap (rowP ws) hx (by rw [rowP_len, hn]) hsrc (rowP_one ws) (by unfold maxLen; omega) (by omega) hB ?_
    intro v' w' h1 h2 _
    refine h v' w' ?_ h2
    unfold OwnP
    rw [List.length_append, rowP_app, ← hn]
    exact h1
end Go.Proofs.Ytackklbifppfeaa
