/- Append of digests, with what is known of the block that the new slice lies in. -/
import Derived.Test.YtmheblpgofeafaaDoorDigPath
namespace Go.Proofs.YtmheblpgofeafaaDoor
open Go.RowKit
set_option linter.unusedVariables false
set_option linter.unusedSimpArgs false

theorem Dg.grown {w w' : World} {b : Nat} {zs : List Int} {row : Option Nat} (h : Dg w b zs) (k : w.grownBy w' row) (hne : row ≠ some b) : Dg w' b zs := ⟨(k.block b h.lt (Ne.symm hne)).trans h.1, h.2⟩
theorem grown_below {w0 w w' : World} {B : Nat} {row : Option Nat} (h : Below B w0 w) (k : w.grownBy w' row) (hB : B ≤ w.heap.size) (hrow : ∀ g, row = some g → B ≤ g) : Below B w0 w' := h.trans (gr_below1 k hB hrow)
/-- where the new slice lies -/
def Lies (w : World) (v v' : Value) : Prop := ∀ g, v'.ownBlock = some g → v.ownBlock = some g ∨ w.heap.size ≤ g
theorem list_appX {ops : Array Oper} {rest : List Oper} {o : Oper} {a : Act} {w : World} {Q : Exit → Act → World → Prop} (hw : Region.wanted o (yielded ops a.tmps) = true) (s x : Operand)
    (ho : o.op = .call { callee := .builtin .append, args := #[s, x], argTypes := #[30, 30] }) (B : Nat) (v : Value) (n : Nat) (fs : List Int) (hs : a.eval s = v) (hown : OwnR w B v n fs)
    (b off m c : Nat) (zs : List Int) (hx : a.eval x = .slice (some ⟨b, off, none⟩) m c) (hzl : zs.length = 32 * m) (hz : BytesAt w b off zs) (hlen : n + m ≤ 1000000000) (hB : B ≤ w.heap.size)
    (h : ∀ v' w', OwnR w' B v' (n + m) (fs ++ zs) → w.grownBy w' v.ownBlock → Lies w v v' → wpList Tryd.prog ops Q rest (a.put o.dst v') w') : wpList Tryd.prog ops Q (o :: rest) a w := by
  obtain ⟨i0, hi, hz0, hz1, hz2⟩ := info_parts infoD
  have hcell : ∀ j u, (bv zs)[j]? = some u → w.cell? ((⟨b, off, none⟩ : Addr).add j) = some u := by
    intro j u hj
    have hj' : j < zs.length := by
      have := (List.getElem?_eq_some_iff.1 hj).1
      rwa [bv_len] at this
    rw [Addr.add_mid, hz j hj']
    have h2 := bv_get zs j hj'
    rw [List.getElem?_toArray, hj] at h2
    exact h2.symm
  have hl : (bv zs).length = m * 32 := by rw [bv_len]; omega
  have hcs : (Value.agg (bv (List.replicate 32 0)).toArray).cells.size = 32 := by simp [Value.cells, bv]
  have b1 : n + m ≤ maxLen := by unfold maxLen; omega
  have b2 : (n + m) * 32 ≤ 140737488355328 := by omega
  obtain ⟨v', w', hrun, o1, g1, _⟩ := run_append_own (P := Tryd.prog) w B 30 o.type 26 i0 _ 32 32 Tryd.underlying30 hi hz0 hz1 hz2 hcs (by decide) v n (bv fs) hown ⟨b, off, none⟩ m c (bv zs) hl hcell (bv_one zs) b1 b2 hB
  have hlies : Lies w v v' := by
    intro g hg
    have hown2 := hown
    obtain ⟨h1, h2⟩ := hown2
    rcases h2 with ⟨rfl, h0⟩ | ⟨g0, cap, cur, rfl, hbg, hgc, hn, hm, hsz, htk⟩
    · subst h0
      obtain ⟨v2, w2, hrun2, o2, _, _⟩ := run_append_own (P := Tryd.prog) w w.heap.size 30 o.type 26 i0 _ 32 32 Tryd.underlying30 hi hz0 hz1 hz2 hcs (by decide) (.slice none 0 0) 0 (bv fs) ⟨h1, .inl ⟨rfl, rfl⟩⟩ ⟨b, off, none⟩ m c (bv zs) hl hcell (bv_one zs) b1 b2 (Nat.le_refl _)
      rw [hrun] at hrun2
      injection hrun2 with e1 e2
      subst e1
      exact .inr ((World.ownsRow.lt o2 g hg).1)
    · by_cases hr : n + m ≤ cap
      · have hrun2 := run_append_room (P := Tryd.prog) w 30 o.type 26 i0 Tryd.underlying30 hi g0 n cap cur hgc ⟨b, off, none⟩ m c (bv zs) (by rw [hl, hz1]) hcell (bv_one zs) hr (by rw [hl, hz1, hsz]; omega)
        rw [hrun] at hrun2
        injection hrun2 with e1 e2
        subst e1
        exact .inl hg
      · obtain ⟨v2, w2, hrun2, o2, _⟩ := run_append_arg_grows (P := Tryd.prog) w 30 o.type 26 i0 _ 32 32 Tryd.underlying30 hi hz0 hz1 hz2 hcs (by decide) ⟨g0, 0, none⟩ n cap (bv fs) h1 (hown.cells (g := g0) rfl) ⟨b, off, none⟩ m c (bv zs) hl hcell (by omega) b1 b2
        rw [hrun] at hrun2
        injection hrun2 with e1 e2
        subst e1
        exact .inr ((World.ownsRow.lt o2 g hg).1)
  refine wpList_step fun K hK => ?_
  rw [if_pos hw]
  unfold Oper.wp
  simp only [execOp, ho, resolve, invoke, builtin, Sem.run_bind, Sem.run_pure, Result.andThen_ok, List.map_toArray, List.map_cons, List.map_nil, hs, hx, hrun]
  exact hK _ _ (h v' w' (by unfold OwnR; rw [bv, List.map_append]; exact o1) g1 hlies)
/-- .. where the source may be nil -/
theorem list_appXS {ops : Array Oper} {rest : List Oper} {o : Oper} {a : Act} {w : World} {Q : Exit → Act → World → Prop} (hgd : o.guard = none) (hw : Region.wanted o (yielded ops a.tmps) = true) (s x : Operand)
    (ho : o.op = .call { callee := .builtin .append, args := #[s, x], argTypes := #[30, 30] }) (B : Nat) (v : Value) (n : Nat) (fs : List Int) (hs : a.eval s = v) (hown : OwnR w B v n fs)
    (p : Option Addr) (m c : Nat) (zs : List Int) (hx : a.eval x = .slice p m c) (hz : SrcD w p m c zs) (hlen : n + m ≤ 1000000000) (hp : ∀ q, p = some q → ∃ b off, q = ⟨b, off, none⟩ ∧ BytesAt w b off zs) (hB : B ≤ w.heap.size)
    (h : ∀ v' w', OwnR w' B v' (n + m) (fs ++ zs) → w.grownBy w' v.ownBlock → Lies w v v' → wpList Tryd.prog ops Q rest (a.put o.dst v') w') : wpList Tryd.prog ops Q (o :: rest) a w := by
  cases p with
  | some q =>
    obtain ⟨b, off, rfl, hc⟩ := hp q rfl
    exact list_appX hw s x ho B v n fs hs hown b off m c zs hx hz.1 hc hlen hB h
  | none =>
    obtain ⟨h1, h2, h3, h4 | ⟨b, off, e, _⟩⟩ := hz
    · obtain ⟨rfl, hc0⟩ := h4
      obtain rfl := hc0 rfl
      obtain rfl : zs = [] := List.eq_nil_of_length_eq_zero (by omega)
      obtain ⟨i0, hi, hz0, hz1, hz2⟩ := info_parts infoD
      have hown' : w.ownsRow B 26 i0.size v n (bv fs) := by rw [hz1]; exact hown
      refine wpList_append_own_none hgd s x 30 ho B 26 i0 32 Tryd.underlying30 hi v n (bv fs) hs hown hx ?_
      exact h v w (by simpa using hown) (gr_refl _ _) (fun g hg => .inl hg)
    · cases e
theorem ownR_lt {w : World} {B n : Nat} {v : Value} {fs : List Int} (h : OwnR w B v n fs) (g : Nat) (hg : v.ownBlock = some g) : B ≤ g ∧ g < w.heap.size := World.ownsRow.lt h g hg
theorem ownR_drew {w : World} {B n : Nat} {v : Value} {fs : List Int} (h : OwnR w B v n fs) : OwnR w.drew B v n fs := h
theorem ownR_emp (w : World) (B : Nat) (hB : B ≤ w.heap.size) : OwnR (w.alloc (.cells #[] 26)) B (.slice (some ⟨w.heap.size, 0, none⟩) 0 0) 0 [] := World.ownsRow_made w #[] 0 hB (by decide) rfl
end Go.Proofs.YtmheblpgofeafaaDoor
