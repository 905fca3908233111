/- Chains: links in memory. -/
import Derived.Test.YtllcgehfmkmcdaaDoorChnM
namespace Go.Proofs.YtllcgehfmkmcdaaDoor
open Go.RowKit
set_option linter.unusedVariables false
set_option linter.unusedSimpArgs false

/-- the cells of a link -/
def lkv (x : Lk) : List Value := .int .i64 x.node :: .int .i64 x.no :: (bv x.prev ++ [x.d])
def inI (n : Int) : Prop := -9223372036854775808 ≤ n ∧ n ≤ 9223372036854775807
/-- a link's parts, and its data in memory -/
structure LkOk (w : World) (x : Lk) : Prop where
  len : x.prev.length = 32
  rng : ∀ z ∈ x.prev, 0 ≤ z ∧ z ≤ 255
  src : SrcW w x.p x.m x.c x.bs
  byt : ∀ z ∈ x.bs, 0 ≤ z ∧ z ≤ 255
  mc : x.m ≤ x.c
  cm : x.c ≤ 9223372036854775807
  i1 : inI x.node
  i2 : inI x.no
theorem srcW_len {w : World} {p : Option Addr} {m c : Nat} {bs : List Int} (h : SrcW w p m c bs) : m = bs.length := by
  rcases h with h | ⟨rfl, rfl, _⟩
  · exact h.1
  · rfl
theorem LkOk.below {w w' : World} {x : Lk} (h : LkOk w x) (k : Below w.heap.size w w') : LkOk w' x := ⟨h.len, h.rng, h.src.below k, h.byt, h.mc, h.cm, h.i1, h.i2⟩
theorem lkv_len {x : Lk} (h : x.prev.length = 32) : (lkv x).length = 35 := by simp [lkv, bv, h]
theorem lkv_one (x : Lk) : ∀ v ∈ lkv x, v.oneCell' = true := by
  intro v hv
  simp only [lkv, List.mem_cons, List.mem_append, List.not_mem_nil, or_false] at hv
  rcases hv with rfl | rfl | h | rfl
  · rfl
  · rfl
  · exact bv_one x.prev v h
  · rfl
/-- links in a row of cells -/
def LksAt (w : World) (b off : Nat) (ls : List Lk) : Prop := ∀ j, j < ls.length → w.rangeAt b (off + j * 35) (lkv (ls.getD j lk0))
structure LksV (w : World) (p : Option Addr) (n c : Nat) (ls : List Lk) : Prop where
  len : n = ls.length
  nc : n ≤ c
  cm : c ≤ 9223372036854775807
  nn : p = none → n = 0 ∧ c = 0
  ok : ∀ x ∈ ls, LkOk w x
  row : n = 0 ∨ ∃ b off, p = some ⟨b, off, none⟩ ∧ b < w.heap.size ∧ LksAt w b off ls
theorem LksV.below {w w' : World} {p : Option Addr} {n c : Nat} {ls : List Lk} (h : LksV w p n c ls) (k : Below w.heap.size w w') : LksV w' p n c ls := by
  refine ⟨h.len, h.nc, h.cm, h.nn, fun x hx => (h.ok x hx).below k, ?_⟩
  rcases h.row with h0 | ⟨b, off, rfl, hb, ha⟩
  · exact .inl h0
  · exact .inr ⟨b, off, rfl, Nat.lt_of_lt_of_le hb k.size, fun j hj => bel_range k (ha j hj) hb⟩
theorem getD_memL {ls : List Lk} {i : Nat} (h : i < ls.length) : ls.getD i lk0 ∈ ls := by
  rw [List.getD, List.getElem?_eq_getElem h]; exact List.getElem_mem h
theorem LksV.at {w : World} {p : Option Addr} {n c : Nat} {ls : List Lk} (h : LksV w p n c ls) {i : Nat} (hi : i < n) : ∃ b off, p = some ⟨b, off, none⟩ ∧ b < w.heap.size ∧ w.rangeAt b (off + i * 35) (lkv (ls.getD i lk0)) ∧ LkOk w (ls.getD i lk0) := by
  have hl := h.len
  rcases h.row with h0 | ⟨b, off, rfl, hb, ha⟩
  · omega
  · exact ⟨b, off, rfl, hb, ha i (by omega), h.ok _ (getD_memL (by omega))⟩
theorem LksV.take {w : World} {p : Option Addr} {n c : Nat} {ls : List Lk} (h : LksV w p n c ls) {i : Nat} (hi : i ≤ n) : LksV w p i c (ls.take i) := by
  have hl := h.len
  refine ⟨by rw [List.length_take]; omega, by have := h.nc; omega, h.cm, fun e => ⟨by have := (h.nn e).1; omega, (h.nn e).2⟩, fun x hx => h.ok x (List.mem_of_mem_take hx), ?_⟩
  rcases h.row with h0 | ⟨b, off, rfl, hb, ha⟩
  · exact .inl (by omega)
  · refine .inr ⟨b, off, rfl, hb, fun j hj => ?_⟩
    rw [List.length_take] at hj
    have := ha j (by omega)
    rwa [show (ls.take i).getD j lk0 = ls.getD j lk0 by simp [List.getD, List.getElem?_take, (by omega : j < i)]]
/-- the cells of a link that lies in a row -/
theorem lk_cells {w : World} {b off : Nat} {x : Lk} (h : w.rangeAt b off (lkv x)) (hl : x.prev.length = 32) : w.cell? ⟨b, off, none⟩ = some (.int .i64 x.node) ∧ w.cell? ⟨b, off + 1, none⟩ = some (.int .i64 x.no) ∧ BytesAt w b (off + 2) x.prev ∧ w.cell? ⟨b, off + 34, none⟩ = some x.d := by
  refine ⟨h 0 _ rfl, h 1 _ rfl, fun j hj => ?_, ?_⟩
  · have := h (j + 2) (.int .u8 (x.prev.getD j 0)) (by
      simp only [lkv, List.getElem?_cons_succ]
      rw [List.getElem?_append_left (by simpa [bv] using hj)]
      simp [bv, List.getD, hj])
    rw [show off + 2 + j = off + (j + 2) by omega]
    exact this
  · refine h 34 _ ?_
    simp only [lkv, List.getElem?_cons_succ]
    rw [List.getElem?_append_right (by simp [bv, hl])]
    simp [bv, hl]
/-- the link x lies in the block b -/
def KBlk (w : World) (b : Nat) (x : Lk) : Prop := Blk w b (lkv x).toArray 37 ∧ x.prev.length = 32
theorem KBlk.lt {w : World} {b : Nat} {x : Lk} (h : KBlk w b x) : b < w.heap.size := h.1.lt
theorem KBlk.bel {w w' : World} {b : Nat} {x : Lk} (h : KBlk w b x) (k : Below w.heap.size w w') : KBlk w' b x := ⟨h.1.below k h.lt, h.2⟩
theorem KBlk.alloc {w : World} {b : Nat} {x : Lk} (h : KBlk w b x) (o : Obj) : KBlk (w.alloc o) b x := ⟨h.1.alloc o, h.2⟩
theorem KBlk.box (w : World) {x : Lk} (h : x.prev.length = 32) : KBlk (w.alloc (.cells (lkv x).toArray 37)) w.heap.size x := ⟨Blk.new w _ _, h⟩
theorem KBlk.new (w : World) : KBlk (w.alloc (.cells #[.int .i64 0, .int .i64 0, .int .u8 0, .int .u8 0, .int .u8 0, .int .u8 0, .int .u8 0, .int .u8 0, .int .u8 0, .int .u8 0, .int .u8 0, .int .u8 0, .int .u8 0, .int .u8 0, .int .u8 0, .int .u8 0, .int .u8 0, .int .u8 0, .int .u8 0, .int .u8 0, .int .u8 0, .int .u8 0, .int .u8 0, .int .u8 0, .int .u8 0, .int .u8 0, .int .u8 0, .int .u8 0, .int .u8 0, .int .u8 0, .int .u8 0, .int .u8 0, .int .u8 0, .int .u8 0, .slice none 0 0] 37)) w.heap.size lk0 := ⟨Blk.new w _ _, by decide⟩
theorem KBlk.wrote {w w' : World} {b d : Nat} {x : Lk} (h : KBlk w b x) (k : Wrote w w' d) (hne : b ≠ d) : KBlk w' b x := ⟨(k.block b hne).trans h.1, h.2⟩
theorem KBlk.cells {w : World} {b : Nat} {x : Lk} (h : KBlk w b x) : w.cell? ⟨b, 0, none⟩ = some (.int .i64 x.node) ∧ w.cell? ⟨b, 1, none⟩ = some (.int .i64 x.no) ∧ BytesAt w b 2 x.prev ∧ w.cell? ⟨b, 34, none⟩ = some x.d := by
  have := lk_cells (off := 0) h.1.range h.2
  simpa only [Nat.zero_add] using this
theorem szLk {x : Lk} (h : x.prev.length = 32) : (Tryd.prog.info? 37).map (·.size) = some (lkv x).length := by
  rw [lkv_len h]; kernel_rfl
theorem all_lk (x : Lk) : (lkv x).toArray.all (·.oneCell') = true := all_oneCell_toArray (lkv_one x)
theorem list_loadK {ops : Array Oper} {Q : Exit → Act → World → Prop} {o : Oper} {rest : List Oper} {a : Act} {w : World} (hw : Region.wanted o (yielded ops a.tmps) = true) (x : Operand) (ho : o.op = .load 37 x) (b off : Nat) (hx : a.eval x = .pointer (some ⟨b, off, none⟩))
    (k : Lk) (hl : k.prev.length = 32) (hb : w.rangeAt b off (lkv k)) (h : wpList Tryd.prog ops Q rest (a.put o.dst (.agg (lkv k).toArray)) w) : wpList Tryd.prog ops Q (o :: rest) a w :=
  list_load hw 37 x ho b off hx (lkv k) _ hb Tryd.underlying37 rfl (szLk hl) h
theorem yields_loadK {ops : Array Oper} {C : World → Prop} {o : Oper} {a : Act} (hw : Region.wanted o (yielded ops a.tmps) = true) (x : Operand) (ho : o.op = .load 37 x) (b off : Nat) (hx : a.eval x = .pointer (some ⟨b, off, none⟩))
    (k : Lk) (hl : k.prev.length = 32) (hc : ∀ u, C u → u.rangeAt b off (lkv k)) : YieldsC Tryd.prog ops C o (.agg (lkv k).toArray) a :=
  yields_load hw 37 x ho b off hx (lkv k) _ hc Tryd.underlying37 rfl (szLk hl)
theorem list_storeK {ops : Array Oper} {rest : List Oper} {o : Oper} {a : Act} {w : World} {Q : Exit → Act → World → Prop} (hgd : o.guard = none) (x y : Operand) (ho : o.op = .store 37 x y)
    (b : Nat) (hx : a.eval x = .pointer (some ⟨b, 0, none⟩)) (k : Lk) (hy : a.eval y = .agg (lkv k).toArray) (lk : k.prev.length = 32) (k0 : Lk) (hb : KBlk w b k0)
    (h : ∀ w', KBlk w' b k → Wrote w w' b → wpList Tryd.prog ops Q rest (a.put o.dst undef) w') : wpList Tryd.prog ops Q (o :: rest) a w := by
  refine wpList_store_mid hgd 37 x y ho b 0 (lkv k).toArray hx hy ?_ (by rw [List.size_toArray]; exact szLk lk) (all_lk k) ?_
  · have := hb.1.there
    rw [lkv_len hb.2] at this
    rw [List.size_toArray, lkv_len lk]
    exact this
  · exact h _ ⟨hb.1.fill (by rw [lkv_len hb.2, lkv_len lk]), lk⟩ (wrote_setCells b _ 0 w)
end Go.Proofs.YtllcgehfmkmcdaaDoor
