/- Blocks known whole; lists of rules, of gaps and of ints in memory. -/
import Derived.Test.YtilokkkodocoiaaCalM
import Derived.Deep.MidRow
import Derived.Deep.QuietTactic
import Derived.BigRegion
import Derived.BigQuiet
import Derived.StillTailTactics
import Derived.Laws.AppendOwn
import Derived.RangeFuncRecord
import Derived.Outline
import Derived.Lib.AppendZerosOnto
import Derived.Laws.AppendOwnNone
import Derived.OwnWalk
import Derived.Lib.Hide
namespace Go.Proofs.Ytilokkkodocoiaa
open Go.RowKit
set_option linter.unusedVariables false
set_option linter.unusedSimpArgs false

theorem bel_trans {w w1 w2 : World} (h1 : Below w.heap.size w w1) (h2 : Below w1.heap.size w1 w2) : Below w.heap.size w w2 := h1.trans (h2.mono h1.size)
theorem bel_alloc1 (w : World) (o : Obj) : Below w.heap.size w (w.alloc o) := (Below.refl _ w).alloc (Nat.le_refl _) o
theorem ret_bool {a b : Bool} (h : a = b) : Ending.returned (.bool a) = .returned (.bool b) := by rw [h]
theorem ret_int {a b : Int} (h : a = b) : Ending.returned (.int .i64 a) = .returned (.int .i64 b) := by rw [h]
theorem lt_of_cell {w : World} {a : Addr} {v : Value} (h : w.cell? a = some v) : a.block < w.heap.size := by
  rcases Nat.lt_or_ge a.block w.heap.size with h1 | h1
  · exact h1
  · simp [World.cell?, Array.getElem?_eq_none h1] at h
/-- a block of cells, known whole -/
def Blk (W : World) (b : Nat) (c : Array Value) (t : TypeId) : Prop := W.heap[b]? = some (.cells c t (0, 0))
theorem Blk.new (W : World) (c : Array Value) (t : TypeId) : Blk (W.alloc (.cells c t)) W.heap.size c t := World.alloc_heap_new W _
theorem Blk.lt {W : World} {b : Nat} {c : Array Value} {t : TypeId} (h : Blk W b c t) : b < W.heap.size := (Array.getElem?_eq_some_iff.1 h).1
theorem Blk.below {W W' : World} {n b : Nat} {c : Array Value} {t : TypeId} (h : Blk W b c t) (k : Below n W W') (hb : b < n) : Blk W' b c t := (k.block b hb).trans h
theorem Blk.alloc {W : World} {b : Nat} {c : Array Value} {t : TypeId} (h : Blk W b c t) (o : Obj) : Blk (W.alloc o) b c t := h.below (bel_alloc1 W o) h.lt
theorem Blk.cell {W : World} {b : Nat} {c : Array Value} {t : TypeId} (h : Blk W b c t) (o : Nat) : W.cell? ⟨b, o, none⟩ = c[o]? := by
  simp [World.cell?, show W.heap[b]? = _ from h]
theorem Blk.frozen {W : World} {b : Nat} {c : Array Value} {t : TypeId} (h : Blk W b c t) (o : Nat) : W.frozen? ⟨b, o, none⟩ = false := by
  simp [World.frozen?, show W.heap[b]? = _ from h]
theorem Blk.set {W : World} {b : Nat} {c : Array Value} {t : TypeId} (h : Blk W b c t) (o : Nat) (v : Value) : Blk (W.setCell ⟨b, o, none⟩ v) b (c.setIfInBounds o v) t := by
  obtain ⟨hlt, hk⟩ := Array.getElem?_eq_some_iff.1 h
  show (W.heap.modify b _)[b]? = _
  rw [Array.getElem?_eq_getElem (by rw [Array.size_modify]; exact hlt), Array.getElem_modify_self, hk]
  rfl
theorem Blk.other {W : World} {b b' : Nat} {c : Array Value} {t : TypeId} (h : Blk W b c t) (o : Nat) (v : Value) (hne : b ≠ b') : Blk (W.setCell ⟨b', o, none⟩ v) b c t :=
  (Below.heap_setCell W ⟨b', o, none⟩ v b hne).trans h
theorem Blk.drew {W : World} {b : Nat} {c : Array Value} {t : TypeId} (h : Blk W b c t) : Blk W.drew b c t := h
theorem setCells_cons (W : World) (b o : Nat) (v : Value) (r : List Value) : W.setCells b o (v :: r) = (W.setCell ⟨b, o, none⟩ v).setCells b (o + 1) r := rfl
theorem Blk.others {b b' : Nat} {c : Array Value} {t : TypeId} (hne : b ≠ b') : ∀ (vs : List Value) (o : Nat) {W : World}, Blk W b c t → Blk (W.setCells b' o vs) b c t
  | [], _, _, h => h
  | v :: r, o, _, h => Blk.others hne r (o + 1) (h.other o v hne)
theorem Blk.setAll {b : Nat} {t : TypeId} : ∀ (vs pre : List Value) (c : List Value) {W : World}, Blk W b (pre ++ c).toArray t → vs.length = c.length → Blk (W.setCells b pre.length vs) b (pre ++ vs).toArray t
  | [], pre, [], _, h, _ => h
  | v :: r, pre, d :: c, W, h, hl => by
    rw [setCells_cons]
    have h1 : Blk (W.setCell ⟨b, pre.length, none⟩ v) b ((pre ++ [v]) ++ c).toArray t := by
      have := h.set pre.length v
      simpa using this
    have := Blk.setAll r (pre ++ [v]) c h1 (by simpa using hl)
    simpa using this
theorem Blk.fill {W : World} {b : Nat} {t : TypeId} {c vs : List Value} (h : Blk W b c.toArray t) (hl : vs.length = c.length) : Blk (W.setCells b 0 vs) b vs.toArray t := by
  have := Blk.setAll vs [] c (by simpa using h) hl
  simpa using this
theorem Blk.range {W : World} {b : Nat} {t : TypeId} {c : List Value} (h : Blk W b c.toArray t) : W.rangeAt b 0 c := fun j v hv => by
  rw [Nat.zero_add, h.cell j]; simpa using hv
theorem Blk.there {W : World} {b : Nat} {t : TypeId} {c : List Value} (h : Blk W b c.toArray t) : W.there b 0 c.length := fun j hj => by
  rw [Nat.zero_add]
  exact ⟨by rw [h.cell j]; simp [hj], h.frozen j⟩
theorem setCells_below {n b : Nat} (hb : n ≤ b) : ∀ (vs : List Value) (o : Nat) {w W : World}, Below n w W → Below n w (W.setCells b o vs)
  | [], _, _, _, h => h
  | v :: r, o, _, _, h => setCells_below hb r (o + 1) (h.setCell (p := ⟨b, o, none⟩) hb v)
theorem size_setCells (b : Nat) : ∀ (vs : List Value) (o : Nat) (W : World), (W.setCells b o vs).heap.size = W.heap.size
  | [], _, _ => rfl
  | v :: r, o, W => by rw [setCells_cons, size_setCells b r (o + 1)]; simp

theorem results_cell_one {P : Program} {fn : Func} {p : Tmp} {ty : TypeId} (h : fn.results = #[.cell p ty]) (tmps : Array Value) (w : World) :
    (results fn tmps).run P w = ((asAddr (tmps.getD p undef)).run P w).andThen fun a w₁ => (loadVar ty a).run P w₁ := by
  simp only [results, h]
  simp [Sem.run_bind, Result.andThen]
theorem results_cell1 {P : Program} {fn : Func} {p : Tmp} {ty : TypeId} {a : Addr} {v : Value} {w : World} (h : fn.results = #[.cell p ty]) (tmps : Array Value) (hp : tmps.getD p undef = .pointer (some a))
    (hl : (loadVar ty a).run P w = .ok v w) : (results fn tmps).run P w = .ok v w := by
  rw [results_cell_one h, hp]
  simp [asAddr, hl]
theorem bel_dn {B : Nat} {a w : World} (h : Below B a w) (n : Nat) : Below B a (w.drewN n) := ⟨h.os, h.tape, h.output, h.size, h.block⟩
theorem gr_refl (w : World) (r : Option Nat) : w.grownBy w r := ⟨rfl, rfl, rfl, Nat.le_refl _, fun _ _ _ => rfl⟩
theorem gr_below {w w1 w2 : World} {r : Option Nat} (h : w.grownBy w1 r) (k : Below w1.heap.size w1 w2) : w.grownBy w2 r :=
  ⟨k.os.trans h.os, k.tape.trans h.tape, k.output.trans h.output, Nat.le_trans h.size k.size, fun i hi hn => (k.block i (Nat.lt_of_lt_of_le hi h.size)).trans (h.block i hi hn)⟩
theorem gr_trans {w w1 w2 : World} {b : Nat} (h : w.grownBy w1 (some b)) (k : w1.grownBy w2 (some b)) : w.grownBy w2 (some b) :=
  ⟨k.os.trans h.os, k.tape.trans h.tape, k.output.trans h.output, Nat.le_trans h.size k.size, fun i hi hn => (k.block i (Nat.lt_of_lt_of_le hi h.size) hn).trans (h.block i hi hn)⟩
theorem gr_set {w w1 : World} {b o : Nat} {v : Value} (h : w.grownBy w1 (some b)) : w.grownBy (w1.setCell ⟨b, o, none⟩ v) (some b) :=
  ⟨h.os, h.tape, h.output, by simpa using h.size, fun i hi hn => (Below.heap_setCell w1 ⟨b, o, none⟩ v i (fun e => hn (by rw [e]))).trans (h.block i hi hn)⟩
theorem gr_drew {w w1 : World} {r : Option Nat} (h : w.grownBy w1 r) : w.grownBy w1.drew r := gr_below h (Below.refl _ w1).drew
theorem gr_dn {w w1 : World} {r : Option Nat} (h : w.grownBy w1 r) (n : Nat) : w.grownBy (w1.drewN n) r := gr_below h (bel_dn (Below.refl _ w1) n)
theorem gr_blk {w w1 : World} {b b' : Nat} {c : Array Value} {t : TypeId} (h : w.grownBy w1 (some b)) (k : Blk w b' c t) (hne : b' ≠ b) : Blk w1 b' c t :=
  (h.block b' k.lt (by intro e; injection e; omega)).trans k

def inI (z : Int) : Prop := -9223372036854775808 ≤ z ∧ z ≤ 9223372036854775807
def RulesAt (w : World) (b off : Nat) (rs : List Rl) : Prop := ∀ j, j < rs.length →
  w.cell? ⟨b, off + j * 3, none⟩ = some (.int .i64 (rs.getD j rl0).1) ∧ w.cell? ⟨b, off + j * 3 + 1, none⟩ = some (.int .i64 (rs.getD j rl0).2.1) ∧ w.cell? ⟨b, off + j * 3 + 2, none⟩ = some (.int .i64 (rs.getD j rl0).2.2)
def GapsAt (w : World) (b off : Nat) (gs : List Gp) : Prop := ∀ j, j < gs.length →
  w.cell? ⟨b, off + j * 2, none⟩ = some (.int .i64 (gs.getD j gp0).1) ∧ w.cell? ⟨b, off + j * 2 + 1, none⟩ = some (.int .i64 (gs.getD j gp0).2)
def IntsAt (w : World) (b off : Nat) (zs : List Int) : Prop := ∀ j, j < zs.length → w.cell? ⟨b, off + j, none⟩ = some (.int .i64 (zs.getD j 0))
structure RulesV (w : World) (p : Option Addr) (n c : Nat) (rs : List Rl) : Prop where
  len : n = rs.length
  nc : n ≤ c
  cm : c ≤ 9223372036854775807
  nn : p = none → n = 0 ∧ c = 0
  rng : ∀ r ∈ rs, inI r.1 ∧ inI r.2.1 ∧ inI r.2.2
  row : n = 0 ∨ ∃ b off, p = some ⟨b, off, none⟩ ∧ b < w.heap.size ∧ RulesAt w b off rs
structure GapsV (w : World) (p : Option Addr) (n c : Nat) (gs : List Gp) : Prop where
  len : n = gs.length
  nc : n ≤ c
  cm : c ≤ 9223372036854775807
  nn : p = none → n = 0 ∧ c = 0
  rng : ∀ r ∈ gs, inI r.1 ∧ inI r.2
  row : n = 0 ∨ ∃ b off, p = some ⟨b, off, none⟩ ∧ b < w.heap.size ∧ GapsAt w b off gs
theorem RulesV.below {w w' : World} {p : Option Addr} {n c : Nat} {rs : List Rl} (h : RulesV w p n c rs) (k : Below w.heap.size w w') : RulesV w' p n c rs := by
  refine ⟨h.len, h.nc, h.cm, h.nn, h.rng, ?_⟩
  rcases h.row with h0 | ⟨b, off, rfl, hb, ha⟩
  · exact .inl h0
  · exact .inr ⟨b, off, rfl, Nat.lt_of_lt_of_le hb k.size, fun j hj => ⟨(k.cell (p := ⟨b, off + j * 3, none⟩) hb).trans (ha j hj).1, (k.cell (p := ⟨b, off + j * 3 + 1, none⟩) hb).trans (ha j hj).2.1, (k.cell (p := ⟨b, off + j * 3 + 2, none⟩) hb).trans (ha j hj).2.2⟩⟩
theorem GapsV.below {w w' : World} {p : Option Addr} {n c : Nat} {gs : List Gp} (h : GapsV w p n c gs) (k : Below w.heap.size w w') : GapsV w' p n c gs := by
  refine ⟨h.len, h.nc, h.cm, h.nn, h.rng, ?_⟩
  rcases h.row with h0 | ⟨b, off, rfl, hb, ha⟩
  · exact .inl h0
  · exact .inr ⟨b, off, rfl, Nat.lt_of_lt_of_le hb k.size, fun j hj => ⟨(k.cell (p := ⟨b, off + j * 2, none⟩) hb).trans (ha j hj).1, (k.cell (p := ⟨b, off + j * 2 + 1, none⟩) hb).trans (ha j hj).2⟩⟩
theorem getD_memZ {α : Type} {zs : List α} {k : Nat} {d : α} (h : k < zs.length) : zs.getD k d ∈ zs := by
  rw [List.getD_eq_getElem?_getD, List.getElem?_eq_getElem h]; exact List.getElem_mem h
theorem RulesV.at {w : World} {p : Option Addr} {n c : Nat} {rs : List Rl} (h : RulesV w p n c rs) {i : Nat} (hi : i < n) : ∃ b off, p = some ⟨b, off, none⟩ ∧ b < w.heap.size ∧ w.cell? ⟨b, off + i * 3, none⟩ = some (.int .i64 (rs.getD i rl0).1) ∧ w.cell? ⟨b, off + i * 3 + 1, none⟩ = some (.int .i64 (rs.getD i rl0).2.1) ∧ w.cell? ⟨b, off + i * 3 + 2, none⟩ = some (.int .i64 (rs.getD i rl0).2.2) := by
  have hl := h.len
  rcases h.row with h0 | ⟨b, off, rfl, hb, ha⟩
  · omega
  · exact ⟨b, off, rfl, hb, ha i (by omega)⟩
theorem GapsV.at {w : World} {p : Option Addr} {n c : Nat} {gs : List Gp} (h : GapsV w p n c gs) {i : Nat} (hi : i < n) : ∃ b off, p = some ⟨b, off, none⟩ ∧ b < w.heap.size ∧ w.cell? ⟨b, off + i * 2, none⟩ = some (.int .i64 (gs.getD i gp0).1) ∧ w.cell? ⟨b, off + i * 2 + 1, none⟩ = some (.int .i64 (gs.getD i gp0).2) := by
  have hl := h.len
  rcases h.row with h0 | ⟨b, off, rfl, hb, ha⟩
  · omega
  · exact ⟨b, off, rfl, hb, ha i (by omega)⟩
theorem GapsV.two {w : World} {p : Option Addr} {n c : Nat} {gs : List Gp} (h : GapsV w p n c gs) {i : Nat} (hi : i < gs.length) : inI (gs.getD i gp0).1 ∧ inI (gs.getD i gp0).2 := h.rng _ (getD_memZ hi)
theorem RulesV.three {w : World} {p : Option Addr} {n c : Nat} {rs : List Rl} (h : RulesV w p n c rs) {i : Nat} (hi : i < rs.length) : inI (rs.getD i rl0).1 ∧ inI (rs.getD i rl0).2.1 ∧ inI (rs.getD i rl0).2.2 := h.rng _ (getD_memZ hi)
end Go.Proofs.Ytilokkkodocoiaa
