/- A link is stored into a list of the walk's own; an argument that is a link. -/
import Derived.Test.YtllcgehfmkmcdaaDoorChnOwn
import Derived.Test.YtllcgehfmkmcdaaDoorLkArg
import Derived.Lib.SmallJoins
namespace Go.Proofs.YtllcgehfmkmcdaaDoor
open Go.ChangeShapes Go.WideShapes Go.ChangeAt Go.RowKit Go.WideElems Go.Deep Go.Joins
set_option linter.unusedVariables false
set_option linter.unusedSimpArgs false

theorem OwnK.there {w : World} {B g n cap : Nat} {l : List Lk} (h : OwnK w B (.slice (some ⟨g, 0, none⟩) n cap) l) {k : Nat} (hk : k < l.length) : w.there g (k * 35) 35 := by
  obtain ⟨_, ⟨e, _⟩ | ⟨g2, cap2, cur, e, _, hg, hn, _, hs, _⟩⟩ := h
  · cases e
  · cases e
    intro j hj
    refine ⟨?_, unfrozen_of_block hg _⟩
    rw [cell_of_block hg]
    have : k * 35 + j < cur.size := by rw [hs]; omega
    simp [this]
theorem lks_set {w0 w : World} {g n cap k : Nat} {l : List Lk} {y : Lk} (hO : OwnK w w0.heap.size (.slice (some ⟨g, 0, none⟩) n cap) l) (hB : Below w0.heap.size w0 w) (hok : ∀ x ∈ l, LkOk w0 x) (hy : LkOk w0 y) (hk : k < l.length) (hl : l.length ≤ 1000000) :
    LksV (w.setCells g (k * 35) (lkv y)) (some ⟨g, 0, none⟩) l.length cap (l.set k y) ∧ Below w0.heap.size w0 (w.setCells g (k * 35) (lkv y)) := by
  have hw : WfK l := fun x hx => (hok x hx).len
  obtain ⟨g2, cap2, e, h1, h2, h3, h4, h5⟩ := hO.slice hw (by omega)
  cases e
  have hB2 := setCells_below h3 (lkv y) (k * 35) hB
  have hml : maxLen ≤ 9223372036854775807 := by decide
  refine ⟨⟨by simp, h1, by omega, (fun e => by cases e), ?_, .inr ⟨g, 0, rfl, by rw [size_setCells]; exact h4, ?_⟩⟩, hB2⟩
  · intro x hx
    rcases List.mem_or_eq_of_mem_set hx with h | rfl
    · exact (hok x h).below hB2
    · exact hy.below hB2
  · intro j hj
    rw [List.length_set] at hj
    by_cases e : j = k
    · subst e
      rw [show (l.set j y).getD j lk0 = y by simp [List.getD, hj], Nat.zero_add]
      exact World.rangeAt_setCells_same w g (j * 35) (lkv y) (by rw [lkv_len hy.len]; exact hO.there hj)
    · rw [show (l.set k y).getD j lk0 = l.getD j lk0 by simp [List.getD, List.getElem?_set, Ne.symm e]]
      refine World.rangeAt_setCells_apart (h5 j hj) g (k * 35) (lkv y) (.inr ?_)
      rw [lkv_len hy.len, lkv_len (hw _ (getD_memL hj))]
      omega
theorem list_storeKat {ops : Array Oper} {rest : List Oper} {o : Oper} {a : Act} {w : World} {Q : Exit → Act → World → Prop} (hgd : o.guard = none) (x y : Operand) (ho : o.op = .store 37 x y)
    (w0 : World) (g n cap k : Nat) (l : List Lk) (z : Lk) (hx : a.eval x = .pointer (some ⟨g, 0 + k * 35, none⟩)) (hy : a.eval y = .agg (lkv z).toArray) (hO : OwnK w w0.heap.size (.slice (some ⟨g, 0, none⟩) n cap) l) (hB : Below w0.heap.size w0 w) (hok : ∀ x ∈ l, LkOk w0 x) (hz : LkOk w0 z) (hk : k < l.length) (hl : l.length ≤ 1000000)
    (h : ∀ w', LksV w' (some ⟨g, 0, none⟩) l.length cap (l.set k z) → Below w0.heap.size w0 w' → wpList Tryd.prog ops Q rest (a.put o.dst undef) w') : wpList Tryd.prog ops Q (o :: rest) a w := by
  rw [Nat.zero_add] at hx
  refine wpList_store_mid hgd 37 x y ho g (k * 35) (lkv z).toArray hx hy (by rw [List.size_toArray, lkv_len hz.len]; exact hO.there hk) (by rw [List.size_toArray]; exact szLk hz.len) (all_lk z) ?_
  have := lks_set hO hB hok hz hk hl
  exact h _ this.1 this.2
section
variable {H : Type} {enc : TypeId × Value → H} {w : World} {base : Nat} {held : Bool}
theorem open_link {r : Reach} {b0 : Nat} {v : Value} {d : DataW H} {ps : List MemPlace}
    (hval : Value.okWide Tryd.prog w r b0 37 v) (hd : DataW.Trod enc Tryd.prog w base (fun _ => true) held 37 v d ps) : ∃ y : Lk, v = .agg (lkv y).toArray ∧ LkOk w y := by
  obtain ⟨g0, g1, g2, g3, hG⟩ : ∃ g0 g1 g2 g3 : Field, Tryd.prog.underlying 37 = some (.struct #[g0, g1, g2, g3]) := ⟨_, _, _, _, Tryd.underlying37⟩
  have ce : Tryd.prog.cellsOf 37 = 35 := by kernel_rfl
  simp only [Value.okWide, hG] at hval
  obtain ⟨cs, rfl, hsz, _⟩ := hval
  obtain ⟨fuel, hf⟩ := hd
  obtain ⟨l⟩ := cs
  have hl : l.length = 35 := hsz.trans ce
  have hcl : (Value.agg ⟨l⟩).cells.toList = l := by simp [Value.cells]
  rw [hcl] at hf
  obtain ⟨y, rfl, hy⟩ := link_cells hf hl
  exact ⟨y, rfl, hy⟩
end
end Go.Proofs.YtllcgehfmkmcdaaDoor
