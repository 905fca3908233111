/- Blocks known whole, bytes in memory, slices of bytes. -/
import Derived.Test.YtackklbifppfeaaLawKit
import Derived.Deep.MidRow
import Derived.Deep.QuietTactic
import Derived.BigRegion
import Derived.BigQuiet
import Derived.StillTailTactics
import Derived.Laws.AppendOwn
import Derived.RangeFuncRecord
import Derived.Outline
import Derived.Lib.AppendZerosOnto
import Derived.Laws.AppendOwnNone
import Derived.OwnWalk
import Derived.Lib.Hide
namespace Go.Proofs.Ytackklbifppfeaa
open Go.RowKit
set_option linter.unusedVariables false
set_option linter.unusedSimpArgs false

theorem bel_trans {w w1 w2 : World} (h1 : Below w.heap.size w w1) (h2 : Below w1.heap.size w1 w2) : Below w.heap.size w w2 := h1.trans (h2.mono h1.size)
theorem bel_alloc1 (w : World) (o : Obj) : Below w.heap.size w (w.alloc o) := (Below.refl _ w).alloc (Nat.le_refl _) o
theorem ret_bool {a b : Bool} (h : a = b) : Ending.returned (.bool a) = .returned (.bool b) := by rw [h]
theorem ret_int {a b : Int} (h : a = b) : Ending.returned (.int .i64 a) = .returned (.int .i64 b) := by rw [h]
theorem lt_of_cell {w : World} {a : Addr} {v : Value} (h : w.cell? a = some v) : a.block < w.heap.size := by
  rcases Nat.lt_or_ge a.block w.heap.size with h1 | h1
  · exact h1
  · simp [World.cell?, Array.getElem?_eq_none h1] at h
/-- a block of cells, known whole -/
def Blk (W : World) (b : Nat) (c : Array Value) (t : TypeId) : Prop := W.heap[b]? = some (.cells c t (0, 0))
theorem Blk.new (W : World) (c : Array Value) (t : TypeId) : Blk (W.alloc (.cells c t)) W.heap.size c t := World.alloc_heap_new W _
theorem Blk.lt {W : World} {b : Nat} {c : Array Value} {t : TypeId} (h : Blk W b c t) : b < W.heap.size := (Array.getElem?_eq_some_iff.1 h).1
theorem Blk.below {W W' : World} {n b : Nat} {c : Array Value} {t : TypeId} (h : Blk W b c t) (k : Below n W W') (hb : b < n) : Blk W' b c t := (k.block b hb).trans h
theorem Blk.alloc {W : World} {b : Nat} {c : Array Value} {t : TypeId} (h : Blk W b c t) (o : Obj) : Blk (W.alloc o) b c t := h.below (bel_alloc1 W o) h.lt
theorem Blk.cell {W : World} {b : Nat} {c : Array Value} {t : TypeId} (h : Blk W b c t) (o : Nat) : W.cell? ⟨b, o, none⟩ = c[o]? := by
  simp [World.cell?, show W.heap[b]? = _ from h]
theorem Blk.frozen {W : World} {b : Nat} {c : Array Value} {t : TypeId} (h : Blk W b c t) (o : Nat) : W.frozen? ⟨b, o, none⟩ = false := by
  simp [World.frozen?, show W.heap[b]? = _ from h]
theorem Blk.set {W : World} {b : Nat} {c : Array Value} {t : TypeId} (h : Blk W b c t) (o : Nat) (v : Value) : Blk (W.setCell ⟨b, o, none⟩ v) b (c.setIfInBounds o v) t := by
  obtain ⟨hlt, hk⟩ := Array.getElem?_eq_some_iff.1 h
  show (W.heap.modify b _)[b]? = _
  rw [Array.getElem?_eq_getElem (by rw [Array.size_modify]; exact hlt), Array.getElem_modify_self, hk]
  rfl
theorem Blk.other {W : World} {b b' : Nat} {c : Array Value} {t : TypeId} (h : Blk W b c t) (o : Nat) (v : Value) (hne : b ≠ b') : Blk (W.setCell ⟨b', o, none⟩ v) b c t :=
  (Below.heap_setCell W ⟨b', o, none⟩ v b hne).trans h
theorem Blk.drew {W : World} {b : Nat} {c : Array Value} {t : TypeId} (h : Blk W b c t) : Blk W.drew b c t := h
theorem setCells_cons (W : World) (b o : Nat) (v : Value) (r : List Value) : W.setCells b o (v :: r) = (W.setCell ⟨b, o, none⟩ v).setCells b (o + 1) r := rfl
theorem Blk.others {b b' : Nat} {c : Array Value} {t : TypeId} (hne : b ≠ b') : ∀ (vs : List Value) (o : Nat) {W : World}, Blk W b c t → Blk (W.setCells b' o vs) b c t
  | [], _, _, h => h
  | v :: r, o, _, h => Blk.others hne r (o + 1) (h.other o v hne)
theorem Blk.setAll {b : Nat} {t : TypeId} : ∀ (vs pre : List Value) (c : List Value) {W : World}, Blk W b (pre ++ c).toArray t → vs.length = c.length → Blk (W.setCells b pre.length vs) b (pre ++ vs).toArray t
  | [], pre, [], _, h, _ => h
  | v :: r, pre, d :: c, W, h, hl => by
    rw [setCells_cons]
    have h1 : Blk (W.setCell ⟨b, pre.length, none⟩ v) b ((pre ++ [v]) ++ c).toArray t := by
      have := h.set pre.length v
      simpa using this
    have := Blk.setAll r (pre ++ [v]) c h1 (by simpa using hl)
    simpa using this
theorem Blk.fill {W : World} {b : Nat} {t : TypeId} {c vs : List Value} (h : Blk W b c.toArray t) (hl : vs.length = c.length) : Blk (W.setCells b 0 vs) b vs.toArray t := by
  have := Blk.setAll vs [] c (by simpa using h) hl
  simpa using this
theorem Blk.range {W : World} {b : Nat} {t : TypeId} {c : List Value} (h : Blk W b c.toArray t) : W.rangeAt b 0 c := fun j v hv => by
  rw [Nat.zero_add, h.cell j]; simpa using hv
theorem Blk.there {W : World} {b : Nat} {t : TypeId} {c : List Value} (h : Blk W b c.toArray t) : W.there b 0 c.length := fun j hj => by
  rw [Nat.zero_add]
  exact ⟨by rw [h.cell j]; simp [hj], h.frozen j⟩
theorem setCells_below {n b : Nat} (hb : n ≤ b) : ∀ (vs : List Value) (o : Nat) {w W : World}, Below n w W → Below n w (W.setCells b o vs)
  | [], _, _, _, h => h
  | v :: r, o, _, _, h => setCells_below hb r (o + 1) (h.setCell (p := ⟨b, o, none⟩) hb v)
theorem size_setCells (b : Nat) : ∀ (vs : List Value) (o : Nat) (W : World), (W.setCells b o vs).heap.size = W.heap.size
  | [], _, _ => rfl
  | v :: r, o, W => by rw [setCells_cons, size_setCells b r (o + 1)]; simp

theorem results_cell_one {P : Program} {fn : Func} {p : Tmp} {ty : TypeId} (h : fn.results = #[.cell p ty]) (tmps : Array Value) (w : World) :
    (results fn tmps).run P w = ((asAddr (tmps.getD p undef)).run P w).andThen fun a w₁ => (loadVar ty a).run P w₁ := by
  simp only [results, h]
  simp [Sem.run_bind, Result.andThen]
theorem results_cell1 {P : Program} {fn : Func} {p : Tmp} {ty : TypeId} {a : Addr} {v : Value} {w : World} (h : fn.results = #[.cell p ty]) (tmps : Array Value) (hp : tmps.getD p undef = .pointer (some a))
    (hl : (loadVar ty a).run P w = .ok v w) : (results fn tmps).run P w = .ok v w := by
  rw [results_cell_one h, hp]
  simp [asAddr, hl]
theorem bel_dn {B : Nat} {a w : World} (h : Below B a w) (n : Nat) : Below B a (w.drewN n) := ⟨h.os, h.tape, h.output, h.size, h.block⟩
def bv (zs : List Int) : List Value := zs.map (Value.int .u8)
theorem bv_get (zs : List Int) (j : Nat) (h : j < zs.length) : (bv zs).toArray[j]? = some (.int .u8 (zs.getD j 0)) := by simp [bv, List.getD, h]
theorem bv_set (zs : List Int) (j : Nat) (x : Int) : (bv zs).toArray.setIfInBounds j (.int .u8 x) = (bv (zs.set j x)).toArray := by simp [bv]
theorem bv_len (zs : List Int) : (bv zs).length = zs.length := by simp [bv]
theorem bv_one (zs : List Int) : ∀ v ∈ bv zs, v.oneCell' = true := by
  intro v hv; simp only [bv, List.mem_map] at hv; obtain ⟨z, _, rfl⟩ := hv; rfl

def BytesAt (w : World) (b off : Nat) (zs : List Int) : Prop := ∀ j, j < zs.length → w.cell? ⟨b, off + j, none⟩ = some (.int .u8 (zs.getD j 0))
theorem BytesAt.below {w w' : World} {n b off : Nat} {zs : List Int} (h : BytesAt w b off zs) (k : Below n w w') (hb : b < n) : BytesAt w' b off zs := fun j hj => (k.cell (p := ⟨b, off + j, none⟩) hb).trans (h j hj)
theorem BytesAt.drop {w : World} {b off : Nat} {zs : List Int} (h : BytesAt w b off zs) (k : Nat) : BytesAt w b (off + k) (zs.drop k) := fun j hj => by
  rw [List.length_drop] at hj
  have := h (k + j) (by omega)
  rw [Nat.add_assoc, this]
  simp [List.getD_eq_getElem?_getD, List.getElem?_drop]
theorem BytesAt.take {w : World} {b off : Nat} {zs : List Int} (h : BytesAt w b off zs) (k : Nat) : BytesAt w b off (zs.take k) := fun j hj => by
  rw [List.length_take] at hj
  rw [h j (by omega)]
  simp only [List.getD_eq_getElem?_getD, List.getElem?_take, show j < k by omega, if_true]
theorem gr_refl (w : World) (r : Option Nat) : w.grownBy w r := ⟨rfl, rfl, rfl, Nat.le_refl _, fun _ _ _ => rfl⟩
theorem gr_below {w w1 w2 : World} {r : Option Nat} (h : w.grownBy w1 r) (k : Below w1.heap.size w1 w2) : w.grownBy w2 r :=
  ⟨k.os.trans h.os, k.tape.trans h.tape, k.output.trans h.output, Nat.le_trans h.size k.size, fun i hi hn => (k.block i (Nat.lt_of_lt_of_le hi h.size)).trans (h.block i hi hn)⟩
theorem gr_trans {w w1 w2 : World} {b : Nat} (h : w.grownBy w1 (some b)) (k : w1.grownBy w2 (some b)) : w.grownBy w2 (some b) :=
  ⟨k.os.trans h.os, k.tape.trans h.tape, k.output.trans h.output, Nat.le_trans h.size k.size, fun i hi hn => (k.block i (Nat.lt_of_lt_of_le hi h.size) hn).trans (h.block i hi hn)⟩
theorem gr_set {w w1 : World} {b o : Nat} {v : Value} (h : w.grownBy w1 (some b)) : w.grownBy (w1.setCell ⟨b, o, none⟩ v) (some b) :=
  ⟨h.os, h.tape, h.output, by simpa using h.size, fun i hi hn => (Below.heap_setCell w1 ⟨b, o, none⟩ v i (fun e => hn (by rw [e]))).trans (h.block i hi hn)⟩
theorem gr_drew {w w1 : World} {r : Option Nat} (h : w.grownBy w1 r) : w.grownBy w1.drew r := gr_below h (Below.refl _ w1).drew
theorem gr_dn {w w1 : World} {r : Option Nat} (h : w.grownBy w1 r) (n : Nat) : w.grownBy (w1.drewN n) r := gr_below h (bel_dn (Below.refl _ w1) n)
theorem gr_blk {w w1 : World} {b b' : Nat} {c : Array Value} {t : TypeId} (h : w.grownBy w1 (some b)) (k : Blk w b' c t) (hne : b' ≠ b) : Blk w1 b' c t :=
  (h.block b' k.lt (by intro e; injection e; omega)).trans k
theorem gr_bytes {w w1 : World} {b b' off : Nat} {zs : List Int} (h : w.grownBy w1 (some b)) (k : BytesAt w b' off zs) (hb : b' < w.heap.size) (hne : b' ≠ b) : BytesAt w1 b' off zs :=
  fun j hj => (World.cell?_of_block (a := ⟨b', off + j, none⟩) (h.block b' hb (by intro e; injection e; omega))).trans (k j hj)
theorem gr_setAll {w : World} {b : Nat} (hb : w.heap.size ≤ b) {r : Option Nat} : ∀ (vs : List Value) (o : Nat) {w1 : World}, w.grownBy w1 r → w.grownBy (w1.setCells b o vs) r
  | [], _, _, h => h
  | v :: l, o, w1, h => gr_setAll hb l (o + 1) ⟨h.os, h.tape, h.output, by simpa using h.size, fun i hi hn => (Below.heap_setCell w1 ⟨b, o, none⟩ v i (fun e => by simp at e; omega)).trans (h.block i hi hn)⟩

section
variable {P : Program} {w : World}
theorem run_append_room_zeros (t tn ty e : TypeId) (i : TypeInfo) (z : Value) (kq kn : IntKind) (ht : P.underlying t = some (.slice e)) (htn : P.underlying tn = some (.int kn)) (hi : P.info? e = some i) (hz : i.zero = some z)
    (g sLen sCap : Nat) (cur : Array Value) (hg : w.heap[g]? = some (.cells cur e (0, 0))) (k : Nat) (hs : 0 < i.size) (hzs : z.cells.size = i.size) (h1 : ∀ u ∈ (Builtin.zeroCells z.cells k).toList, u.oneCell' = true)
    (h63 : k ≤ 9223372036854775807) (h48 : k * i.bytes ≤ 281474976710656) (hroom : sLen + k ≤ sCap) (hfit : sLen * i.size + k * i.size ≤ cur.size) :
    (Builtin.append_ #[t, tn] ty #[.slice (some ⟨g, 0, none⟩) sLen sCap, .int kq k]).run P w =
      .ok (.slice (some ⟨g, 0, none⟩) (sLen + k) sCap) (w.setRow g (cur.toList.take (sLen * i.size) ++ (Builtin.zeroCells z.cells k).toList ++ cur.toList.drop (sLen * i.size + (Builtin.zeroCells z.cells k).toList.length)).toArray) := by
  have hst := run_storeCells_at P g (sLen * i.size) e (Builtin.zeroCells z.cells k).toList 0 cur w hg (by simp only [Array.length_toList, size_zeroCells, hzs]; simpa using hfit) h1
  simp only [Nat.add_zero] at hst
  have hw : IntKind.i64.wrap (k : Int) = k := by rw [IntKind.wrap_i64]; omega
  have hneg : ¬ ((k : Int) < 0) := by omega
  have h48i : ¬ (281474976710656 < (k : Int) * (i.bytes : Int)) := by
    rw [← Int.natCast_mul]; omega
  by_cases hk : k = 0
  · subst hk
    have e0 : Builtin.zeroCells z.cells 0 = #[] := by apply Array.eq_empty_of_size_eq_zero; rw [size_zeroCells]; simp
    rw [e0] at hst ⊢
    simp [Builtin.append_, run_underlying ht, run_underlying htn, sizeOf, typeInfo, zeroValue, hi, hz, asInt, asIntOf, hw, Addr.add_lit] at hst ⊢
    have hr : sLen ≤ sCap := by omega
    simp [hr, hst, IntKind.wrap, IntKind.bits, IntKind.signed]
  · have hns : ¬ (k * i.size = 0) := Nat.mul_ne_zero hk (by omega)
    simp [Builtin.append_, run_underlying ht, run_underlying htn, sizeOf, typeInfo, zeroValue, hi, hz, asInt, asIntOf, hw, hneg, hns, h48i, hroom, Addr.add_lit, hst]

theorem run_append_zeros_own (base : Nat) (t tn ty e : TypeId) (i : TypeInfo) (z : Value) (kq kn : IntKind) (size bytes : Nat) (ht : P.underlying t = some (.slice e)) (htn : P.underlying tn = some (.int kn)) (hi : P.info? e = some i) (hz : i.zero = some z)
    (hsize : i.size = size) (hby : i.bytes = bytes) (hzs : z.cells.size = size) (hsz : 0 < size)
    (v : Value) (n : Nat) (xs : List Value) (hn : 0 < n) (hown : w.ownsRow base e size v n xs) (k : Nat) (h1 : ∀ u ∈ (Builtin.zeroCells z.cells k).toList, u.oneCell' = true)
    (h63 : n + k ≤ maxLen) (hbytes : (n + k) * bytes ≤ 140737488355328) (hbase : base ≤ w.heap.size) :
    ∃ v' w', (Builtin.append_ #[t, tn] ty #[v, .int kq k]).run P w = .ok v' w' ∧ w'.ownsRow base e size v' (n + k) (xs ++ (Builtin.zeroCells z.cells k).toList) ∧ w.grownBy w' v.ownBlock := by
  subst hsize
  subst hby
  have hsmall : n + k ≤ 9223372036854775807 := by simp only [maxLen] at h63; omega
  have hl : (Builtin.zeroCells z.cells k).toList.length = k * i.size := by simp only [Array.length_toList, size_zeroCells, hzs]
  have hlen : (xs ++ (Builtin.zeroCells z.cells k).toList).length = (n + k) * i.size := by rw [List.length_append, hown.1, hl, Nat.add_mul]
  have h48 : k * i.bytes ≤ 281474976710656 := by rw [Nat.add_mul] at hbytes; omega
  rcases hown.2 with ⟨rfl, rfl⟩ | ⟨g, cap, cur, rfl, hbg, hg, hnc, hcm, hcs, htake⟩
  · omega
  · by_cases hroom : n + k ≤ cap
    · have hfit : n * i.size + k * i.size ≤ cur.size := by rw [hcs, ← Nat.add_mul]; exact Nat.mul_le_mul_right _ hroom
      have hr := run_append_room_zeros (P := P) (w := w) t tn ty e i z kq kn ht htn hi hz g n cap cur hg k hsz hzs h1 (by omega) h48 hroom hfit
      refine ⟨_, _, hr, ⟨hlen, .inr ⟨g, cap, _, rfl, hbg, setRow_heap w g cur _ e _ hg, hroom, hcm, ?_, ?_⟩⟩, ⟨rfl, rfl, rfl, by simp, fun k _ hk => setRow_other w g k _ (fun e => hk (by simp [Value.ownBlock, e]))⟩⟩
      · simp only [List.size_toArray, List.length_append, List.length_take, List.length_drop, Array.length_toList] at hl ⊢
        omega
      · rw [htake, ← hlen]
        exact List.take_left
    · have holds : ∀ j u, xs[j]? = some u → w.cell? ((⟨g, 0, none⟩ : Addr).add j) = some u := hown.cells (g := g) rfl
      have hge := grownCap_ge w (n + k) cap e
      have hcm' : grownCap w (n + k) cap e ≤ maxLen := grownCap_le_maxLen w (n + k) cap e h63
      have hr := Go.Lib.run_append_grow_zeros (P := P) w t tn ty e i z kq kn ht htn hi hz (some ⟨g, 0, none⟩) n cap xs (run_firstCells_some (P := P) w.drew i.size n ⟨g, 0, none⟩ n cap xs hown.1 holds) k (by omega) hsz (by omega) (by omega) h48 (growslice_fits (by omega) hbytes)
      refine ⟨_, _, hr, ⟨hlen, .inr ⟨w.heap.size, _, _, rfl, hbase, heap_alloc_new w.drew _, hge, hcm', ?_, ?_⟩⟩, ⟨rfl, rfl, rfl, by simp, fun k hk _ => heap_alloc_old w.drew _ hk⟩⟩
      · simp only [Array.size_append, List.size_toArray, size_zeroCells, hzs, hown.1, ← Nat.add_mul]
        congr 1
        omega
      · simp only [Array.toList_append, List.append_assoc]
        rw [← List.append_assoc, ← hlen]
        exact List.take_left

theorem wpList_append_zeros_own {ops : Array Oper} {rest : List Oper} {o : Oper} {a : Act} {Q : Exit → Act → World → Prop} (hgd : o.guard = none) (s x : Operand) (t tn : TypeId)
    (ho : o.op = .call { callee := .builtin .append, args := #[s, x], argTypes := #[t, tn] })
    (base : Nat) (e : TypeId) (i : TypeInfo) (z : Value) (kq kn : IntKind) (size bytes : Nat) (ht : P.underlying t = some (.slice e)) (htn : P.underlying tn = some (.int kn)) (hi : P.info? e = some i) (hz : i.zero = some z)
    (hsize : i.size = size) (hby : i.bytes = bytes) (hzs : z.cells.size = size) (hsz : 0 < size)
    (v : Value) (n : Nat) (xs : List Value) (hn : 0 < n) (hs : a.eval s = v) (hown : w.ownsRow base e size v n xs) (k : Nat) (hx : a.eval x = .int kq k) (h1 : ∀ u ∈ (Builtin.zeroCells z.cells k).toList, u.oneCell' = true)
    (h63 : n + k ≤ maxLen) (hbytes : (n + k) * bytes ≤ 140737488355328) (hbase : base ≤ w.heap.size)
    (h : ∀ v' w', w'.ownsRow base e size v' (n + k) (xs ++ (Builtin.zeroCells z.cells k).toList) → w.grownBy w' v.ownBlock → wpList P ops Q rest (a.put o.dst v') w') : wpList P ops Q (o :: rest) a w :=
  wpList_plain hgd fun _ hK => by
    obtain ⟨v', w', hr, h2, h3⟩ := run_append_zeros_own (P := P) (w := w) base t tn o.type e i z kq kn size bytes ht htn hi hz hsize hby hzs hsz v n xs hn hown k h1 h63 hbytes hbase
    unfold Oper.wp execOp
    simp only [ho, resolve, invoke, builtin, Sem.run_bind, Sem.run_pure, Result.andThen_ok, List.map_toArray, List.map_cons, List.map_nil, hs, hx, hr]
    exact hK _ _ (h v' w' h2 h3)
end
theorem info8 : (Try.prog.info? 5).map (fun i => (i.zero, i.size, i.bytes)) = some (some (.int .u8 0), 1, 1) := by kernel_rfl
/-- bytes that the walk has made -/
def Own8 (w : World) (B : Nat) (v : Value) (zs : List Int) : Prop := w.ownsRow B 5 1 v zs.length (bv zs)
/-- a slice of bytes, also nil -/
def SrcV (w : World) (p : Option Addr) (m c : Nat) (zs : List Int) : Prop := m = zs.length ∧ ((p = none ∧ m = 0 ∧ c = 0) ∨ ∃ b off, p = some ⟨b, off, none⟩ ∧ b < w.heap.size ∧ BytesAt w b off zs)
theorem SrcV.below {w w' : World} {p : Option Addr} {m c : Nat} {zs : List Int} (h : SrcV w p m c zs) (k : Below w.heap.size w w') : SrcV w' p m c zs := by
  obtain ⟨h1, h2 | ⟨b, off, rfl, hb, hc⟩⟩ := h
  · exact ⟨h1, .inl h2⟩
  · exact ⟨h1, .inr ⟨b, off, rfl, Nat.lt_of_lt_of_le hb k.size, hc.below k hb⟩⟩
theorem own8_alloc {w : World} {B : Nat} {v : Value} {zs : List Int} (h : Own8 w B v zs) (o : Obj) : Own8 (w.alloc o) B v zs := World.ownsRow.alloc h o
theorem own8_below {w w' : World} {B : Nat} {v : Value} {zs : List Int} (h : Own8 w B v zs) (k : Below w.heap.size w w') : Own8 w' B v zs := by
  refine World.ownsRow.kept (row := none) h ⟨k.os, k.tape, k.output, k.size, fun i hi _ => k.block i hi⟩ ?_
  cases hv : v.ownBlock with
  | none => exact .inl rfl
  | some b => exact .inr (by simp)
theorem own8_src {w : World} {B : Nat} {v : Value} {zs : List Int} (h : Own8 w B v zs) : ∃ p cap, v = .slice p zs.length cap ∧ SrcV w p zs.length cap zs ∧ zs.length ≤ cap ∧ cap ≤ maxLen ∧ (∀ a, p = some a → B ≤ a.block) := by
  obtain ⟨h1, h2⟩ := h
  rcases h2 with ⟨rfl, h0⟩ | ⟨g, cap, cur, rfl, hBg, hg, hn, hm, hs, ht⟩
  · exact ⟨none, 0, by rw [h0], ⟨rfl, .inl ⟨rfl, h0, rfl⟩⟩, by omega, by unfold maxLen; omega, fun a ha => by cases ha⟩
  · refine ⟨_, _, rfl, ⟨rfl, .inr ⟨g, 0, rfl, (Array.getElem?_eq_some_iff.1 hg).1, ?_⟩⟩, hn, hm, fun a ha => by cases ha; exact hBg⟩
    intro j hj
    have h3 : (cur.toList.take (zs.length * 1))[j]? = (bv zs)[j]? := by rw [ht]
    rw [List.getElem?_take, if_pos (by omega)] at h3
    simp only [World.cell?, hg, Nat.zero_add]
    have h4 : cur[j]? = some (.int .u8 (zs.getD j 0)) := by
      rw [← Array.getElem?_toList, h3, bv, List.getElem?_map, List.getElem?_eq_getElem hj, List.getD_eq_getElem?_getD, List.getElem?_eq_getElem hj]; rfl
    rw [h4]; rfl
theorem bel_grown8 {w0 w w' : World} {B : Nat} {v : Value} {zs : List Int} (k : Below B w0 w) (ho : Own8 w B v zs) (hg : w.grownBy w' v.ownBlock) (hB : B ≤ w.heap.size) : Below B w0 w' :=
  k.trans ⟨hg.os, hg.tape, hg.output, hg.size, fun i hi => hg.block i (by omega) (by intro e; have := (World.ownsRow.lt ho) i e.symm; omega)⟩

theorem app8 {ops : Array Oper} {rest : List Oper} {o : Oper} {a : Act} {w : World} {Q : Exit → Act → World → Prop} (hgd : o.guard = none) (s x : Operand)
    (ho : o.op = .call { callee := .builtin .append, args := #[s, x], argTypes := #[35, 35] }) (B : Nat) (v : Value) (xs : List Int) (hs : a.eval s = v) (hown : Own8 w B v xs)
    (p : Option Addr) (m c : Nat) (zs : List Int) (hx : a.eval x = .slice p m c) (hz : SrcV w p m c zs) (hlen : xs.length + zs.length ≤ 2000000000) (hB : B ≤ w.heap.size)
    (h : ∀ v' w', Own8 w' B v' (xs ++ zs) → w.grownBy w' v.ownBlock → wpList Try.prog ops Q rest (a.put o.dst v') w') : wpList Try.prog ops Q (o :: rest) a w := by
  obtain ⟨i0, hi, hz0, hz1, hz2⟩ := info_parts info8
  obtain ⟨hm, ⟨rfl, h0, rfl⟩ | ⟨b, off, rfl, hb, hc⟩⟩ := hz
  · have hzs : zs = [] := List.eq_nil_of_length_eq_zero (by omega)
    subst hzs
    subst h0
    refine wpList_append_own_none hgd s x 35 ho B 5 i0 1 Try.underlying35 hi v xs.length (bv xs) hs hown hx ?_
    exact h v w (by simpa using hown) (gr_refl _ _)
  · refine wpList_append_own _ hgd s x 35 ho B 5 i0 (.int .u8 0) 1 1 Try.underlying35 hi hz0 hz1 hz2 rfl (by decide) v xs.length (bv xs) hs hown ⟨b, off, none⟩ m c (bv zs) hx (by rw [bv_len]; omega) ?_ (bv_one zs) (by unfold maxLen; omega) (by omega) hB ?_
    · intro j u hj
      have hj' : j < zs.length := by
        have := (List.getElem?_eq_some_iff.1 hj).1
        rwa [bv_len] at this
      rw [Addr.add_mid, hc j hj']
      have h2 := bv_get zs j hj'
      rw [List.getElem?_toArray, hj] at h2
      exact h2.symm
    · intro v' w' h1 h2 _
      refine h v' w' ?_ h2
      unfold Own8
      rw [List.length_append, bv, List.map_append, ← hm]
      exact h1
/-- a slice of bytes, also an empty one that lies nowhere -/
def SrcW (w : World) (p : Option Addr) (m c : Nat) (zs : List Int) : Prop := SrcV w p m c zs ∨ (zs = [] ∧ m = 0 ∧ c = 0 ∧ ∃ a, p = some a)
theorem SrcW.below {w w' : World} {p : Option Addr} {m c : Nat} {zs : List Int} (h : SrcW w p m c zs) (k : Below w.heap.size w w') : SrcW w' p m c zs := h.imp (fun h => h.below k) id
theorem SrcW.len {w : World} {p : Option Addr} {m c : Nat} {zs : List Int} (h : SrcW w p m c zs) : m = zs.length := by
  rcases h with h | ⟨rfl, rfl, _⟩
  · exact h.1
  · rfl
theorem app8w {ops : Array Oper} {rest : List Oper} {o : Oper} {a : Act} {w : World} {Q : Exit → Act → World → Prop} (hgd : o.guard = none) (s x : Operand)
    (ho : o.op = .call { callee := .builtin .append, args := #[s, x], argTypes := #[35, 35] }) (B : Nat) (v : Value) (xs : List Int) (hs : a.eval s = v) (hown : Own8 w B v xs)
    (p : Option Addr) (m c : Nat) (zs : List Int) (hx : a.eval x = .slice p m c) (hz : SrcW w p m c zs) (hlen : xs.length + zs.length ≤ 2000000000) (hB : B ≤ w.heap.size)
    (h : ∀ v' w', Own8 w' B v' (xs ++ zs) → w.grownBy w' v.ownBlock → wpList Try.prog ops Q rest (a.put o.dst v') w') : wpList Try.prog ops Q (o :: rest) a w := by
  rcases hz with hz | ⟨rfl, rfl, rfl, ad, rfl⟩
  · exact app8 hgd s x ho B v xs hs hown p m c zs hx hz hlen hB h
  · obtain ⟨i0, hi, hz0, hz1, hz2⟩ := info_parts info8
    refine wpList_append_own _ hgd s x 35 ho B 5 i0 (.int .u8 0) 1 1 Try.underlying35 hi hz0 hz1 hz2 rfl (by decide) v xs.length (bv xs) hs hown ad 0 0 [] hx rfl (fun j u hj => by simp at hj) (fun u hu => by simp at hu) (by unfold maxLen; simp at hlen; omega) (by simp at hlen; omega) hB ?_
    intro v' w' h1 h2 _
    refine h v' w' ?_ h2
    simpa [Own8] using h1
theorem zeroCells8 (k : Nat) : (Builtin.zeroCells (Value.cells (.int .u8 0)) k).toList = bv (List.replicate k 0) := by
  apply List.ext_getElem
  · rw [Array.length_toList, size_zeroCells, bv_len, List.length_replicate]; simp [Value.cells]
  · intro j h1 h2
    simp [Builtin.zeroCells, bv, Value.cells, Nat.mod_one]
theorem zer8 {ops : Array Oper} {rest : List Oper} {o : Oper} {a : Act} {w : World} {Q : Exit → Act → World → Prop} (hgd : o.guard = none) (s x : Operand)
    (ho : o.op = .call { callee := .builtin .append, args := #[s, x], argTypes := #[35, 3] }) (B : Nat) (v : Value) (xs : List Int) (hs : a.eval s = v) (hown : Own8 w B v xs) (hpos : 0 < xs.length)
    (k : Nat) (hx : a.eval x = .int .i64 k) (hlen : xs.length + k ≤ 2000000000) (hB : B ≤ w.heap.size)
    (h : ∀ v' w', Own8 w' B v' (xs ++ List.replicate k 0) → w.grownBy w' v.ownBlock → wpList Try.prog ops Q rest (a.put o.dst v') w') : wpList Try.prog ops Q (o :: rest) a w := by
  obtain ⟨i0, hi, hz0, hz1, hz2⟩ := info_parts info8
  refine wpList_append_zeros_own hgd s x 35 3 ho B 5 i0 (.int .u8 0) .i64 .i64 1 1 Try.underlying35 Try.underlying3 hi hz0 hz1 hz2 rfl (by decide) v xs.length (bv xs) hpos hs hown k hx
    (by rw [zeroCells8]; exact bv_one _) (by unfold maxLen; omega) (by omega) hB ?_
  intro v' w' h1 h2
  refine h v' w' ?_ h2
  rw [zeroCells8] at h1
  unfold Own8
  rw [List.length_append, bv, List.map_append, List.length_replicate]
  exact h1
def strL (s : ByteArray) : List Int := s.data.toList.map fun b => (b.toNat : Int)
theorem strL_len (s : ByteArray) : (strL s).length = s.size := by
  show (s.data.toList.map _).length = s.data.size
  rw [List.length_map, Array.length_toList]
theorem strL_rng (s : ByteArray) : ∀ z ∈ strL s, 0 ≤ z ∧ z ≤ 255 := by
  intro z hz
  simp only [strL, List.mem_map] at hz
  obtain ⟨b, _, rfl⟩ := hz
  have := b.toNat_lt
  omega
end Go.Proofs.Ytackklbifppfeaa
