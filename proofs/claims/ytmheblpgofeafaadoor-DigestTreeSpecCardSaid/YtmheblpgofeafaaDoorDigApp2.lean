/- Two appends, one behind the other, onto an empty slice: of bytes and of digests; guarded or not. -/
import Derived.Test.YtmheblpgofeafaaDoorDigOf
namespace Go.Proofs.YtmheblpgofeafaaDoor
open Go.RowKit
set_option linter.unusedVariables false
set_option linter.unusedSimpArgs false

theorem gr_belowT {w0 w w' : World} {B : Nat} {row : Option Nat} (k : Below B w0 w) (hg : w.grownBy w' row) (hB : B ≤ w.heap.size) (hrow : ∀ g, row = some g → B ≤ g) : Below B w0 w' :=
  k.trans ⟨hg.os, hg.tape, hg.output, hg.size, fun i hi => hg.block i (by omega) (by intro e; have := hrow i e.symm; omega)⟩
theorem gr_below1 {w w' : World} {B : Nat} {row : Option Nat} (hg : w.grownBy w' row) (hB : B ≤ w.heap.size) (hrow : ∀ g, row = some g → B ≤ g) : Below B w w' :=
  ⟨hg.os, hg.tape, hg.output, hg.size, fun i hi => hg.block i (by omega) (by intro e; have := hrow i e.symm; omega)⟩
/-- append, whether the operation is guarded or not -/
theorem list_app8 {ops : Array Oper} {rest : List Oper} {o : Oper} {a : Act} {w : World} {Q : Exit → Act → World → Prop} (hw : Region.wanted o (yielded ops a.tmps) = true) (s x : Operand)
    (ho : o.op = .call { callee := .builtin .append, args := #[s, x], argTypes := #[22, 22] }) (B : Nat) (v : Value) (xs : List Int) (hs : a.eval s = v) (hown : Own8 w B v xs)
    (b off m c : Nat) (zs : List Int) (hx : a.eval x = .slice (some ⟨b, off, none⟩) m c) (hm : m = zs.length) (hz : BytesAt w b off zs) (hlen : xs.length + zs.length ≤ 2000000000) (hB : B ≤ w.heap.size)
    (h : ∀ v' w', Own8 w' B v' (xs ++ zs) → w.grownBy w' v.ownBlock → wpList Tryd.prog ops Q rest (a.put o.dst v') w') : wpList Tryd.prog ops Q (o :: rest) a w := by
  obtain ⟨i0, hi, hz0, hz1, hz2⟩ := info_parts info8
  refine wpList_step fun K hK => ?_
  rw [if_pos hw]
  refine wp_append_own w s x 22 ho B 5 i0 (.int .u8 0) 1 1 Tryd.underlying22 hi hz0 hz1 hz2 rfl (by decide) v xs.length (bv xs) hs hown ⟨b, off, none⟩ m c (bv zs) hx (by rw [bv_len]; omega) ?_ (bv_one zs) (by unfold maxLen; omega) (by omega) hB ?_
  · intro j u hj
    have hj' : j < zs.length := by
      have := (List.getElem?_eq_some_iff.1 hj).1
      rwa [bv_len] at this
    rw [Addr.add_mid, hz j hj']
    have h2 := bv_get zs j hj'
    rw [List.getElem?_toArray, hj] at h2
    exact h2.symm
  · intro v' w' h1 h2 _
    refine hK _ _ (h v' w' ?_ h2)
    unfold Own8
    rw [List.length_append, bv, List.map_append, ← hm]
    exact h1
/-- two digests, one behind the other, in new bytes -/
theorem app8_two {ops : Array Oper} {rest : List Oper} {o1 o2 : Oper} {a : Act} {w : World} {Q : Exit → Act → World → Prop} (s x y : Operand) (d1 : Tmp) (hd : o1.dst = some d1) (hw1 : Region.wanted o1 (yielded ops a.tmps) = true) (hw2 : ∀ v, Region.wanted o2 (yielded ops (a.put (some d1) v).tmps) = true)
    (ho1 : o1.op = .call { callee := .builtin .append, args := #[s, x], argTypes := #[22, 22] }) (ho2 : o2.op = .call { callee := .builtin .append, args := #[.tmp d1, y], argTypes := #[22, 22] })
    (eb xb yb : Nat) (hs : a.eval s = .slice (some ⟨eb, 0, none⟩) 0 0) (he : Blk w eb #[] 5) (hx : a.eval x = .slice (some ⟨xb, 0, none⟩) 32 32) (hy : ∀ v, (a.put (some d1) v).eval y = .slice (some ⟨yb, 0, none⟩) 32 32) (hds : ∀ v, (a.put (some d1) v).eval (.tmp d1) = v)
    (xs ys : List Int) (lx : xs.length = 32) (ly : ys.length = 32) (hyb : yb < eb) (zx : BytesAt w xb 0 xs) (zy : BytesAt w yb 0 ys)
    (h : ∀ v p c w', SrcV w' p 64 c (xs ++ ys) → 64 ≤ c → c ≤ maxLen → Below eb w w' → wpList Tryd.prog ops Q rest ((a.put (some d1) v).put o2.dst (.slice p 64 c)) w') : wpList Tryd.prog ops Q (o1 :: o2 :: rest) a w := by
  have hlt := he.lt
  have own : Own8 w eb (.slice (some ⟨eb, 0, none⟩) 0 0) [] := ⟨rfl, .inr ⟨eb, 0, #[], rfl, Nat.le_refl _, he, Nat.le_refl _, by unfold maxLen; omega, rfl, rfl⟩⟩
  refine list_app8 hw1 s x ho1 eb _ [] hs own xb 0 32 32 xs hx lx.symm zx (by simp; omega) (by omega) ?_
  intro v1 u1 h1 hg1
  rw [hd]
  have B1 : Below eb w u1 := gr_below1 hg1 (by omega) (fun g hg => by simp [Value.ownBlock] at hg; omega)
  refine list_app8 (hw2 v1) (.tmp d1) y ho2 eb v1 ([] ++ xs) (hds v1) h1 yb 0 32 32 ys (hy v1) ly.symm (zy.below B1 hyb) (by simp; omega) (by have := B1.size; omega) ?_
  intro v2 u2 h2 hg2
  have B2 : Below eb w u2 := gr_belowT B1 hg2 (by have := B1.size; omega) (fun g hg => (World.ownsRow.lt h1 g hg).1)
  obtain ⟨p, c, rfl, hs2, hc2, hm2, _⟩ := own8_src h2
  have hl2 : ([] ++ xs ++ ys).length = 64 := by simp; omega
  rw [hl2] at hs2 hc2 ⊢
  exact h v1 p c u2 hs2 hc2 hm2 B2
end Go.Proofs.YtmheblpgofeafaaDoor
