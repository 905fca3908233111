/- Slices of ints that a walk has made. -/
import Derived.Test.YtilokkkodocoiaaCalDep
import Derived.Test.YtilokkkodocoiaaCalChk
namespace Go.Proofs.Ytilokkkodocoiaa
open Go.RowKit
set_option linter.unusedVariables false
set_option linter.unusedSimpArgs false

theorem iv_one (zs : List Int) : ∀ v ∈ iv zs, v.oneCell' = true := by
  intro v hv
  simp only [iv, List.mem_map] at hv
  obtain ⟨z, _, rfl⟩ := hv
  rfl
/-- ints that the walk has made -/
def OwnI (w : World) (B : Nat) (v : Value) (zs : List Int) : Prop := w.ownsRow B 3 1 v zs.length (iv zs)
/-- a slice of ints, also nil -/
def IntV (w : World) (p : Option Addr) (m c : Nat) (zs : List Int) : Prop := m = zs.length ∧ ((p = none ∧ m = 0 ∧ c = 0) ∨ ∃ b off, p = some ⟨b, off, none⟩ ∧ b < w.heap.size ∧ IntsAt w b off zs)
theorem IntV.below {w w' : World} {p : Option Addr} {m c : Nat} {zs : List Int} (h : IntV w p m c zs) (k : Below w.heap.size w w') : IntV w' p m c zs := by
  obtain ⟨h1, h2 | ⟨b, off, rfl, hb, hc⟩⟩ := h
  · exact ⟨h1, .inl h2⟩
  · exact ⟨h1, .inr ⟨b, off, rfl, Nat.lt_of_lt_of_le hb k.size, fun j hj => (k.cell (p := ⟨b, off + j, none⟩) hb).trans (hc j hj)⟩⟩
theorem ownI_alloc {w : World} {B : Nat} {v : Value} {zs : List Int} (h : OwnI w B v zs) (o : Obj) : OwnI (w.alloc o) B v zs := World.ownsRow.alloc h o
theorem ownI_below {w w' : World} {B : Nat} {v : Value} {zs : List Int} (h : OwnI w B v zs) (k : Below w.heap.size w w') : OwnI w' B v zs := by
  refine World.ownsRow.kept (row := none) h ⟨k.os, k.tape, k.output, k.size, fun i hi _ => k.block i hi⟩ ?_
  cases hv : v.ownBlock with
  | none => exact .inl rfl
  | some b => exact .inr (by simp)
theorem ownI_src {w : World} {B : Nat} {v : Value} {zs : List Int} (h : OwnI w B v zs) : ∃ p cap, v = .slice p zs.length cap ∧ IntV w p zs.length cap zs ∧ zs.length ≤ cap ∧ cap ≤ maxLen ∧ (∀ a, p = some a → B ≤ a.block) := by
  obtain ⟨h1, h2⟩ := h
  rcases h2 with ⟨rfl, h0⟩ | ⟨g, cap, cur, rfl, hBg, hg, hn, hm, hs, ht⟩
  · exact ⟨none, 0, by rw [h0], ⟨rfl, .inl ⟨rfl, h0, rfl⟩⟩, by omega, by unfold maxLen; omega, fun a ha => by cases ha⟩
  · refine ⟨_, _, rfl, ⟨rfl, .inr ⟨g, 0, rfl, (Array.getElem?_eq_some_iff.1 hg).1, ?_⟩⟩, hn, hm, fun a ha => by cases ha; exact hBg⟩
    intro j hj
    have h3 : (cur.toList.take (zs.length * 1))[j]? = (iv zs)[j]? := by rw [ht]
    rw [List.getElem?_take, if_pos (by omega)] at h3
    simp only [World.cell?, hg, Nat.zero_add]
    have h4 : cur[j]? = some (.int .i64 (zs.getD j 0)) := by
      rw [← Array.getElem?_toList, h3, iv, List.getElem?_map, List.getElem?_eq_getElem hj, List.getD_eq_getElem?_getD, List.getElem?_eq_getElem hj]; rfl
    rw [h4]; rfl
theorem bel_grownI {w0 w w' : World} {B : Nat} {v : Value} {zs : List Int} (k : Below B w0 w) (ho : OwnI w B v zs) (hg : w.grownBy w' v.ownBlock) (hB : B ≤ w.heap.size) : Below B w0 w' :=
  k.trans ⟨hg.os, hg.tape, hg.output, hg.size, fun i hi => hg.block i (by omega) (by intro e; have := (World.ownsRow.lt ho) i e.symm; omega)⟩

theorem appI {ops : Array Oper} {rest : List Oper} {o : Oper} {a : Act} {w : World} {Q : Exit → Act → World → Prop} (hgd : o.guard = none) (s x : Operand)
    (ho : o.op = .call { callee := .builtin .append, args := #[s, x], argTypes := #[25, 25] }) (B : Nat) (v : Value) (xs : List Int) (hs : a.eval s = v) (hown : OwnI w B v xs)
    (p : Option Addr) (m c : Nat) (zs : List Int) (hx : a.eval x = .slice p m c) (hz : IntV w p m c zs) (hlen : xs.length + zs.length ≤ 2000000000) (hB : B ≤ w.heap.size)
    (h : ∀ v' w', OwnI w' B v' (xs ++ zs) → w.grownBy w' v.ownBlock → wpList Try.prog ops Q rest (a.put o.dst v') w') : wpList Try.prog ops Q (o :: rest) a w := by
  obtain ⟨i0, hi, hz0, hz1, hz2⟩ := info_parts infoI
  obtain ⟨hm, ⟨rfl, h0, rfl⟩ | ⟨b, off, rfl, hb, hc⟩⟩ := hz
  · have hzs : zs = [] := List.eq_nil_of_length_eq_zero (by omega)
    subst hzs
    subst h0
    refine wpList_append_own_none hgd s x 25 ho B 3 i0 1 Try.underlying25 hi v xs.length (iv xs) hs hown hx ?_
    exact h v w (by simpa using hown) (gr_refl _ _)
  · refine wpList_append_own _ hgd s x 25 ho B 3 i0 (.int .i64 0) 1 8 Try.underlying25 hi hz0 hz1 hz2 rfl (by decide) v xs.length (iv xs) hs hown ⟨b, off, none⟩ m c (iv zs) hx (by rw [iv_len]; omega) ?_ (iv_one zs) (by unfold maxLen; omega) (by omega) hB ?_
    · intro j u hj
      have hj' : j < zs.length := by
        have := (List.getElem?_eq_some_iff.1 hj).1
        rwa [iv_len] at this
      rw [Addr.add_mid, hc j hj']
      have h2 := iv_get zs j hj'
      rw [List.getElem?_toArray, hj] at h2
      exact h2.symm
    · intro v' w' h1 h2 _
      refine h v' w' ?_ h2
      unfold OwnI
      rw [List.length_append, iv, List.map_append, ← hm]
      exact h1
theorem ownI_keep {w w' : World} {B : Nat} {v : Value} {zs : List Int} {row : Option Nat} (h : OwnI w B v zs) (hg : w.grownBy w' row) (hr : ∀ r, row = some r → r < B ∨ ∃ o : Obj, w.heap[r]? = some o ∧ o.isCells = false) : OwnI w' B v zs := by
  refine World.ownsRow.kept (row := row) h hg ?_
  have hlt := World.ownsRow.lt h
  obtain ⟨h1, h2⟩ := h
  cases hv : v.ownBlock with
  | none => exact .inl rfl
  | some b =>
    refine .inr fun e => ?_
    obtain ⟨g1, g2⟩ := hlt b hv
    rcases h2 with ⟨rfl, _⟩ | ⟨g, cap, cur, rfl, hBg, hgg, _⟩
    · cases hv
    · have hb : g = b := by simpa [Value.ownBlock] using hv
      subst hb
      rcases hr g e.symm with h | ⟨o, ho, hc⟩
      · omega
      · rw [hgg] at ho; cases ho; cases hc
theorem Blk.one {W : World} {b : Nat} {v : Value} {t : TypeId} (h : Blk W b #[v] t) : W.cell? ⟨b, 0, none⟩ = some v := h.cell 0
/-- a cell that can be read back later: a block keeps all over what the law turns -/
theorem blk_ownX {β : Type} {B n0 m b : Nat} {t : TypeId} (c : β → Array Value) (hb : b < n0) : OwnX B n0 m (fun (s : β) W => Blk W b (c s) t) := by
  intro s X Y row h hg hr
  refine (hg.block b h.lt ?_).trans h
  intro e
  rcases hr b e.symm with h1 | ⟨_, o, ho, hc⟩
  · omega
  · rw [show X.heap[b]? = _ from h] at ho; cases ho; cases hc
theorem below_ownX {β : Type} {n₀ B n0 m : Nat} {w₀ : World} (hn : n₀ ≤ w₀.heap.size) (hB : n₀ ≤ B) (h0 : n₀ ≤ n0) : OwnX B n0 m (fun (_ : β) W => Below n₀ w₀ W) := by
  intro s X Y row h hg hr
  refine h.trans ⟨hg.os, hg.tape, hg.output, hg.size, fun i hi => hg.block i (by have := h.size; omega) ?_⟩
  intro e
  rcases hr i e.symm with h1 | ⟨h1, _⟩ <;> omega
theorem KpD.put {k0 ib : Nat} {w3 : World} (h1 : k0 ≤ w3.heap.size) (h2 : ib + 3 ≤ w3.heap.size) (W : World) (l : Nat) (o o' : Obj) (hl : w3.heap.size ≤ l) (h : W.heap[l]? = some o) (hc : o.isCells = false) (hw : o.isWalk = false) : KpD k0 ib W (W.putObj l o') :=
  ⟨belowK_b (w := w3) h1 W l o o' hl h hc hw, fun b _ h3 => World.putObj_heap_other (by omega)⟩
theorem KpD.of_grown {k0 ib : Nat} {W W' : World} {row : Option Nat} (hg : W.grownBy W' row) (h1 : k0 ≤ W.heap.size) (h2 : ib + 3 ≤ W.heap.size) (hr : ∀ r, row = some r → k0 ≤ r ∧ ib + 3 ≤ r) : KpD k0 ib W W' :=
  ⟨⟨hg.os, hg.tape, hg.output, hg.size, fun i hi => hg.block i (by omega) (fun e => by have := (hr i e.symm).1; omega)⟩, fun b _ h3 => hg.block b (by omega) (fun e => by have := (hr b e.symm).2; omega)⟩
theorem grown_blk {W W' : World} {row : Option Nat} (hg : W.grownBy W' row) {b : Nat} {c : Array Value} {t : TypeId} (h : Blk W b c t) (hne : row = some b → False) : Blk W' b c t := (hg.block b h.lt (fun e => hne e.symm)).trans h
/-- a slice of ints that grows, in a block of its own -/
theorem row_ownX {B n0 lb : Nat} (hb : lb < n0) : OwnX B n0 1 (fun (pre : List Int) W => ∃ v, Blk W lb #[v] 25 ∧ OwnI W (n0 + 1) v pre) := by
  intro s X Y row h hg hr
  obtain ⟨v, h1, h2⟩ := h
  exact ⟨v, blk_ownX (β := Unit) (B := B) (m := 1) (fun _ => #[v]) hb () X Y row h1 hg hr, ownI_keep h2 hg (fun r e => (hr r e).elim (fun k => .inl (by omega)) (fun k => .inr k.2))⟩
theorem keeps_grown {W W' : World} {row : Option Nat} (hg : W.grownBy W' row) (hr : ∀ r, row = some r → ∃ o : Obj, W.heap[r]? = some o ∧ o.isCells = true) : KeepsOthers W W' :=
  ⟨hg.size, fun k o hk ho => (hg.block k (Array.getElem?_eq_some_iff.1 hk).1 (fun e => by
    obtain ⟨o2, h2, h3⟩ := hr k e.symm
    rw [hk] at h2; cases h2; rw [ho] at h3; cases h3)).trans hk⟩
theorem ownI_cells {w : World} {B : Nat} {v : Value} {zs : List Int} (h : OwnI w B v zs) : ∀ r, v.ownBlock = some r → B ≤ r ∧ ∃ o : Obj, w.heap[r]? = some o ∧ o.isCells = true := by
  intro r hv
  have hlt := World.ownsRow.lt h r hv
  obtain ⟨h1, h2⟩ := h
  rcases h2 with ⟨rfl, _⟩ | ⟨g, cap, cur, rfl, hBg, hgg, _⟩
  · cases hv
  · have hb : g = r := by simpa [Value.ownBlock] using hv
    subst hb
    exact ⟨hlt.1, _, hgg, rfl⟩
theorem ownI_mono {w : World} {B B' : Nat} {v : Value} {zs : List Int} (h : OwnI w B v zs) (k : B' ≤ B) : OwnI w B' v zs := by
  obtain ⟨h1, h2⟩ := h
  refine ⟨h1, h2.imp id ?_⟩
  rintro ⟨g, cap, cur, e, hB, r⟩
  exact ⟨g, cap, cur, e, by omega, r⟩
theorem cell_new1 (w : World) (x : Value) (t : TypeId) : ∀ j u, [x][j]? = some u → (w.alloc (.cells #[x] t)).cell? ((⟨w.heap.size, 0, none⟩ : Addr).add j) = some u := by
  intro j u hj
  have hj0 : j = 0 := by
    have := (List.getElem?_eq_some_iff.1 hj).1
    simpa using this
  subst hj0
  rw [Addr.add_mid, Nat.zero_add]
  have h := (Blk.new w #[x] t).one
  rw [h]; exact hj
theorem ownI_of {w : World} {B : Nat} {v : Value} {pre : List Int} {x : Int} (h : w.ownsRow B 3 1 v (pre.length + 1) (iv pre ++ [.int .i64 x])) : OwnI w B v (pre ++ [x]) := by
  unfold OwnI
  rw [List.length_append, List.length_singleton, iv, List.map_append]
  exact h
theorem pure_ownX {β : Type} {B n0 m : Nat} (p : β → Prop) : OwnX B n0 m (fun (s : β) (_ : World) => p s) := fun _ _ _ _ h _ _ => h
end Go.Proofs.Ytilokkkodocoiaa
