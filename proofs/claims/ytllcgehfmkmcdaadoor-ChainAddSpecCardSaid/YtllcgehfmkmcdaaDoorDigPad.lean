/- What follows the last whole block: digest.padding. -/
import Derived.Test.YtllcgehfmkmcdaaDoorDigApp
import Derived.Test.YtllcgehfmkmcdaaDoorDigByt
namespace Go.Proofs.YtllcgehfmkmcdaaDoor
open Go.RowKit
set_option linter.unusedVariables false
set_option linter.unusedSimpArgs false

theorem info8 : (Tryd.prog.info? 5).map (fun i => (i.zero, i.size, i.bytes)) = some (some (.int .u8 0), 1, 1) := by kernel_rfl
/-- bytes that the walk has made -/
def Own8 (w : World) (B : Nat) (v : Value) (zs : List Int) : Prop := w.ownsRow B 5 1 v zs.length (bv zs)
/-- a slice of bytes, also nil -/
def SrcV (w : World) (p : Option Addr) (m c : Nat) (zs : List Int) : Prop := m = zs.length ∧ ((p = none ∧ m = 0 ∧ c = 0) ∨ ∃ b off, p = some ⟨b, off, none⟩ ∧ b < w.heap.size ∧ BytesAt w b off zs)
theorem SrcV.below {w w' : World} {p : Option Addr} {m c : Nat} {zs : List Int} (h : SrcV w p m c zs) (k : Below w.heap.size w w') : SrcV w' p m c zs := by
  obtain ⟨h1, h2 | ⟨b, off, rfl, hb, hc⟩⟩ := h
  · exact ⟨h1, .inl h2⟩
  · exact ⟨h1, .inr ⟨b, off, rfl, Nat.lt_of_lt_of_le hb k.size, hc.below k hb⟩⟩
theorem own8_alloc {w : World} {B : Nat} {v : Value} {zs : List Int} (h : Own8 w B v zs) (o : Obj) : Own8 (w.alloc o) B v zs := World.ownsRow.alloc h o
theorem own8_below {w w' : World} {B : Nat} {v : Value} {zs : List Int} (h : Own8 w B v zs) (k : Below w.heap.size w w') : Own8 w' B v zs := by
  refine World.ownsRow.kept (row := none) h ⟨k.os, k.tape, k.output, k.size, fun i hi _ => k.block i hi⟩ ?_
  cases hv : v.ownBlock with
  | none => exact .inl rfl
  | some b => exact .inr (by simp)
theorem own8_src {w : World} {B : Nat} {v : Value} {zs : List Int} (h : Own8 w B v zs) : ∃ p cap, v = .slice p zs.length cap ∧ SrcV w p zs.length cap zs ∧ zs.length ≤ cap ∧ cap ≤ maxLen ∧ (∀ a, p = some a → B ≤ a.block) := by
  obtain ⟨h1, h2⟩ := h
  rcases h2 with ⟨rfl, h0⟩ | ⟨g, cap, cur, rfl, hBg, hg, hn, hm, hs, ht⟩
  · exact ⟨none, 0, by rw [h0], ⟨rfl, .inl ⟨rfl, h0, rfl⟩⟩, by omega, by unfold maxLen; omega, fun a ha => by cases ha⟩
  · refine ⟨_, _, rfl, ⟨rfl, .inr ⟨g, 0, rfl, (Array.getElem?_eq_some_iff.1 hg).1, ?_⟩⟩, hn, hm, fun a ha => by cases ha; exact hBg⟩
    intro j hj
    have h3 : (cur.toList.take (zs.length * 1))[j]? = (bv zs)[j]? := by rw [ht]
    rw [List.getElem?_take, if_pos (by omega)] at h3
    simp only [World.cell?, hg, Nat.zero_add]
    have h4 : cur[j]? = some (.int .u8 (zs.getD j 0)) := by
      rw [← Array.getElem?_toList, h3, bv, List.getElem?_map, List.getElem?_eq_getElem hj, List.getD_eq_getElem?_getD, List.getElem?_eq_getElem hj]; rfl
    rw [h4]; rfl
theorem bel_grown8 {w0 w w' : World} {B : Nat} {v : Value} {zs : List Int} (k : Below B w0 w) (ho : Own8 w B v zs) (hg : w.grownBy w' v.ownBlock) (hB : B ≤ w.heap.size) : Below B w0 w' :=
  k.trans ⟨hg.os, hg.tape, hg.output, hg.size, fun i hi => hg.block i (by omega) (by intro e; have := (World.ownsRow.lt ho) i e.symm; omega)⟩

theorem app8 {ops : Array Oper} {rest : List Oper} {o : Oper} {a : Act} {w : World} {Q : Exit → Act → World → Prop} (hgd : o.guard = none) (s x : Operand)
    (ho : o.op = .call { callee := .builtin .append, args := #[s, x], argTypes := #[23, 23] }) (B : Nat) (v : Value) (xs : List Int) (hs : a.eval s = v) (hown : Own8 w B v xs)
    (p : Option Addr) (m c : Nat) (zs : List Int) (hx : a.eval x = .slice p m c) (hz : SrcV w p m c zs) (hlen : xs.length + zs.length ≤ 2000000000) (hB : B ≤ w.heap.size)
    (h : ∀ v' w', Own8 w' B v' (xs ++ zs) → w.grownBy w' v.ownBlock → wpList Tryd.prog ops Q rest (a.put o.dst v') w') : wpList Tryd.prog ops Q (o :: rest) a w := by
  obtain ⟨i0, hi, hz0, hz1, hz2⟩ := info_parts info8
  obtain ⟨hm, ⟨rfl, h0, rfl⟩ | ⟨b, off, rfl, hb, hc⟩⟩ := hz
  · have hzs : zs = [] := List.eq_nil_of_length_eq_zero (by omega)
    subst hzs
    subst h0
    refine wpList_append_own_none hgd s x 23 ho B 5 i0 1 Tryd.underlying23 hi v xs.length (bv xs) hs hown hx ?_
    exact h v w (by simpa using hown) (gr_refl _ _)
  · refine wpList_append_own _ hgd s x 23 ho B 5 i0 (.int .u8 0) 1 1 Tryd.underlying23 hi hz0 hz1 hz2 rfl (by decide) v xs.length (bv xs) hs hown ⟨b, off, none⟩ m c (bv zs) hx (by rw [bv_len]; omega) ?_ (bv_one zs) (by unfold maxLen; omega) (by omega) hB ?_
    · intro j u hj
      have hj' : j < zs.length := by
        have := (List.getElem?_eq_some_iff.1 hj).1
        rwa [bv_len] at this
      rw [Addr.add_mid, hc j hj']
      have h2 := bv_get zs j hj'
      rw [List.getElem?_toArray, hj] at h2
      exact h2.symm
    · intro v' w' h1 h2 _
      refine h v' w' ?_ h2
      unfold Own8
      rw [List.length_append, bv, List.map_append, ← hm]
      exact h1
/-- a slice of bytes, also an empty one that lies nowhere -/
def SrcW (w : World) (p : Option Addr) (m c : Nat) (zs : List Int) : Prop := SrcV w p m c zs ∨ (zs = [] ∧ m = 0 ∧ c = 0 ∧ ∃ a, p = some a)
theorem SrcW.below {w w' : World} {p : Option Addr} {m c : Nat} {zs : List Int} (h : SrcW w p m c zs) (k : Below w.heap.size w w') : SrcW w' p m c zs := h.imp (fun h => h.below k) id
theorem SrcW.len {w : World} {p : Option Addr} {m c : Nat} {zs : List Int} (h : SrcW w p m c zs) : m = zs.length := by
  rcases h with h | ⟨rfl, rfl, _⟩
  · exact h.1
  · rfl
theorem app8w {ops : Array Oper} {rest : List Oper} {o : Oper} {a : Act} {w : World} {Q : Exit → Act → World → Prop} (hgd : o.guard = none) (s x : Operand)
    (ho : o.op = .call { callee := .builtin .append, args := #[s, x], argTypes := #[23, 23] }) (B : Nat) (v : Value) (xs : List Int) (hs : a.eval s = v) (hown : Own8 w B v xs)
    (p : Option Addr) (m c : Nat) (zs : List Int) (hx : a.eval x = .slice p m c) (hz : SrcW w p m c zs) (hlen : xs.length + zs.length ≤ 2000000000) (hB : B ≤ w.heap.size)
    (h : ∀ v' w', Own8 w' B v' (xs ++ zs) → w.grownBy w' v.ownBlock → wpList Tryd.prog ops Q rest (a.put o.dst v') w') : wpList Tryd.prog ops Q (o :: rest) a w := by
  rcases hz with hz | ⟨rfl, rfl, rfl, ad, rfl⟩
  · exact app8 hgd s x ho B v xs hs hown p m c zs hx hz hlen hB h
  · obtain ⟨i0, hi, hz0, hz1, hz2⟩ := info_parts info8
    refine wpList_append_own _ hgd s x 23 ho B 5 i0 (.int .u8 0) 1 1 Tryd.underlying23 hi hz0 hz1 hz2 rfl (by decide) v xs.length (bv xs) hs hown ad 0 0 [] hx rfl (fun j u hj => by simp at hj) (fun u hu => by simp at hu) (by unfold maxLen; simp at hlen; omega) (by simp at hlen; omega) hB ?_
    intro v' w' h1 h2 _
    refine h v' w' ?_ h2
    simpa [Own8] using h1
theorem zeroCells8 (k : Nat) : (Builtin.zeroCells (Value.cells (.int .u8 0)) k).toList = bv (List.replicate k 0) := by
  apply List.ext_getElem
  · rw [Array.length_toList, size_zeroCells, bv_len, List.length_replicate]; simp [Value.cells]
  · intro j h1 h2
    simp [Builtin.zeroCells, bv, Value.cells, Nat.mod_one]
theorem zer8 {ops : Array Oper} {rest : List Oper} {o : Oper} {a : Act} {w : World} {Q : Exit → Act → World → Prop} (hgd : o.guard = none) (s x : Operand)
    (ho : o.op = .call { callee := .builtin .append, args := #[s, x], argTypes := #[23, 3] }) (B : Nat) (v : Value) (xs : List Int) (hs : a.eval s = v) (hown : Own8 w B v xs) (hpos : 0 < xs.length)
    (k : Nat) (hx : a.eval x = .int .i64 k) (hlen : xs.length + k ≤ 2000000000) (hB : B ≤ w.heap.size)
    (h : ∀ v' w', Own8 w' B v' (xs ++ List.replicate k 0) → w.grownBy w' v.ownBlock → wpList Tryd.prog ops Q rest (a.put o.dst v') w') : wpList Tryd.prog ops Q (o :: rest) a w := by
  obtain ⟨i0, hi, hz0, hz1, hz2⟩ := info_parts info8
  refine wpList_append_zeros_own hgd s x 23 3 ho B 5 i0 (.int .u8 0) .i64 .i64 1 1 Tryd.underlying23 Tryd.underlying3 hi hz0 hz1 hz2 rfl (by decide) v xs.length (bv xs) hpos hs hown k hx
    (by rw [zeroCells8]; exact bv_one _) (by unfold maxLen; omega) (by omega) hB ?_
  intro v' w' h1 h2
  refine h v' w' ?_ h2
  rw [zeroCells8] at h1
  unfold Own8
  rw [List.length_append, bv, List.map_append, List.length_replicate]
  exact h1
end Go.Proofs.YtllcgehfmkmcdaaDoor
