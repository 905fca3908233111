/- Whole digests in blocks of their own: stored, loaded, carried (the part of DigSt that stands on no tree and on no signature). Equal digests, any two. Thirty-two letters. -/
import Derived.Test.YtllcgehfmkmcdaaDoorDigTag
import Derived.Test.YtllcgehfmkmcdaaDoorDigPadW
import Derived.Test.YtllcgehfmkmcdaaDoorDigByt
import Derived.Test.YtllcgehfmkmcdaaDoorDigEq
import Derived.Test.YtllcgehfmkmcdaaDoorRegU
import Derived.Laws.StructEq
import Derived.ChangeKeysEq
namespace Go.Proofs.YtllcgehfmkmcdaaDoor
open Go.RowKit
set_option linter.unusedVariables false
set_option linter.unusedSimpArgs false

theorem bel_range {n b off : Nat} {w w' : World} {cs : List Value} (k : Below n w w') (h : w.rangeAt b off cs) (hb : b < n) : w'.rangeAt b off cs := fun j v hv => (k.cell (p := ⟨b, off + j, none⟩) hb).trans (h j v hv)
/-- a row of digests, read -/
theorem range_row {w : World} {b off : Nat} {zs : List Int} (h : BytesAt w b off zs) : w.rangeAt b off (bv zs) := fun j v hv => by
  have hj : j < zs.length := by
    have := (List.getElem?_eq_some_iff.1 hv).1
    rwa [bv_len] at this
  have h2 := bv_get zs j hj
  rw [List.getElem?_toArray, hv] at h2
  rw [h j hj]; exact h2.symm

/-- the digest zs lies in the block b -/
def Dg (w : World) (b : Nat) (zs : List Int) : Prop := Blk w b (bv zs).toArray 35 ∧ zs.length = 32
theorem Dg.lt {w : World} {b : Nat} {zs : List Int} (h : Dg w b zs) : b < w.heap.size := h.1.lt
theorem Dg.below {w w' : World} {n b : Nat} {zs : List Int} (h : Dg w b zs) (k : Below n w w') (hb : b < n) : Dg w' b zs := ⟨h.1.below k hb, h.2⟩
theorem Dg.bel {w w' : World} {b : Nat} {zs : List Int} (h : Dg w b zs) (k : Below w.heap.size w w') : Dg w' b zs := h.below k h.lt
theorem Dg.alloc {w : World} {b : Nat} {zs : List Int} (h : Dg w b zs) (o : Obj) : Dg (w.alloc o) b zs := ⟨h.1.alloc o, h.2⟩
theorem Dg.drew {w : World} {b : Nat} {zs : List Int} (h : Dg w b zs) : Dg w.drew b zs := h
theorem Dg.bytes {w : World} {b : Nat} {zs : List Int} (h : Dg w b zs) : BytesAt w b 0 zs := bytes_run h.1
theorem Dg.new (w : World) : Dg (w.alloc (.cells #[.int .u8 0, .int .u8 0, .int .u8 0, .int .u8 0, .int .u8 0, .int .u8 0, .int .u8 0, .int .u8 0, .int .u8 0, .int .u8 0, .int .u8 0, .int .u8 0, .int .u8 0, .int .u8 0, .int .u8 0, .int .u8 0, .int .u8 0, .int .u8 0, .int .u8 0, .int .u8 0, .int .u8 0, .int .u8 0, .int .u8 0, .int .u8 0, .int .u8 0, .int .u8 0, .int .u8 0, .int .u8 0, .int .u8 0, .int .u8 0, .int .u8 0, .int .u8 0] 35)) w.heap.size (List.replicate 32 0) := ⟨zeros32 w, rfl⟩
theorem Dg.box (w : World) {zs : List Int} (h : zs.length = 32) : Dg (w.alloc (.cells (bv zs).toArray 35)) w.heap.size zs := ⟨Blk.new w _ _, h⟩
/-- the block b alone was written -/
structure Wrote (w w' : World) (b : Nat) : Prop where
  os : w'.os = w.os
  tape : w'.tape = w.tape
  output : w'.output = w.output
  size : w'.heap.size = w.heap.size
  block : ∀ k, k ≠ b → w'.heap[k]? = w.heap[k]?
theorem Dg.wrote {w w' : World} {b c : Nat} {zs : List Int} (h : Dg w b zs) (k : Wrote w w' c) (hne : b ≠ c) : Dg w' b zs := ⟨(k.block b hne).trans h.1, h.2⟩
theorem BytesAt.wrote {w w' : World} {b c off : Nat} {zs : List Int} (h : BytesAt w b off zs) (k : Wrote w w' c) (hne : b ≠ c) : BytesAt w' b off zs := fun j hj => (World.cell?_of_block (a := ⟨b, off + j, none⟩) (k.block b hne)).trans (h j hj)
theorem Wrote.below {w w' : World} {b n : Nat} (k : Wrote w w' b) (h : n ≤ b) : Below n w w' := ⟨k.os, k.tape, k.output, by rw [k.size]; exact Nat.le_refl _, fun i hi => k.block i (by omega)⟩
theorem wrote_setCells (b : Nat) : ∀ (vs : List Value) (o : Nat) (w : World), Wrote w (w.setCells b o vs) b
  | [], _, w => ⟨rfl, rfl, rfl, rfl, fun _ _ => rfl⟩
  | v :: r, o, w => by
    have h := wrote_setCells b r (o + 1) (w.setCell ⟨b, o, none⟩ v)
    rw [setCells_cons]
    have h1 := (setCells_below (n := 0) (Nat.zero_le b) [v] o (Below.refl 0 w))
    refine ⟨h.os.trans h1.os, h.tape.trans h1.tape, h.output.trans h1.output, h.size.trans (size_setCells b [v] o w), fun k hk => (h.block k hk).trans ?_⟩
    exact Below.heap_setCell w ⟨b, o, none⟩ v k hk
/-- a digest is stored whole -/
theorem list_storeD {ops : Array Oper} {rest : List Oper} {o : Oper} {a : Act} {w : World} {Q : Exit → Act → World → Prop} (hgd : o.guard = none) (x y : Operand) (ho : o.op = .store 35 x y)
    (b : Nat) (hx : a.eval x = .pointer (some ⟨b, 0, none⟩)) (ds : List Int) (hy : a.eval y = .agg (bv ds).toArray) (ld : ds.length = 32) (zs : List Int) (hb : Dg w b zs)
    (h : ∀ w', Dg w' b ds → Wrote w w' b → wpList Tryd.prog ops Q rest (a.put o.dst undef) w') : wpList Tryd.prog ops Q (o :: rest) a w := by
  refine wpList_store_mid hgd 35 x y ho b 0 (bv ds).toArray hx hy ?_ (size32 ds ld) (all_oneCell_toArray (bv_one ds)) ?_
  · have := hb.1.there
    simp only [bv_len, hb.2] at this
    simp only [List.size_toArray, bv_len, ld]
    exact this
  · exact h _ ⟨hb.1.fill (by rw [bv_len, bv_len, hb.2, ld]), ld⟩ (wrote_setCells b _ 0 w)
/-- a digest is loaded whole -/
theorem list_loadD {ops : Array Oper} {Q : Exit → Act → World → Prop} {o : Oper} {rest : List Oper} {a : Act} {w : World} (hw : Region.wanted o (yielded ops a.tmps) = true) (x : Operand) (ho : o.op = .load 35 x) (b : Nat) (hx : a.eval x = .pointer (some ⟨b, 0, none⟩))
    (zs : List Int) (hb : Dg w b zs) (h : wpList Tryd.prog ops Q rest (a.put o.dst (.agg (bv zs).toArray)) w) : wpList Tryd.prog ops Q (o :: rest) a w :=
  list_load hw 35 x ho b 0 hx (bv zs) _ hb.1.range Tryd.underlying35 rfl (size32' zs hb.2) h
/-- .. in the midst of a row of digests -/
theorem list_loadM {ops : Array Oper} {Q : Exit → Act → World → Prop} {o : Oper} {rest : List Oper} {a : Act} {w : World} (hw : Region.wanted o (yielded ops a.tmps) = true) (x : Operand) (ho : o.op = .load 35 x) (b off : Nat) (hx : a.eval x = .pointer (some ⟨b, off, none⟩))
    (zs : List Int) (hb : BytesAt w b off zs) (hl : zs.length = 32) (h : wpList Tryd.prog ops Q rest (a.put o.dst (.agg (bv zs).toArray)) w) : wpList Tryd.prog ops Q (o :: rest) a w :=
  list_load hw 35 x ho b off hx (bv zs) _ (range_row hb) Tryd.underlying35 rfl (size32' zs hl) h
theorem yields_loadD {ops : Array Oper} {C : World → Prop} {o : Oper} {a : Act} (hw : Region.wanted o (yielded ops a.tmps) = true) (x : Operand) (ho : o.op = .load 35 x) (b : Nat) (hx : a.eval x = .pointer (some ⟨b, 0, none⟩))
    (zs : List Int) (hl : zs.length = 32) (hc : ∀ u, C u → Dg u b zs) : YieldsC Tryd.prog ops C o (.agg (bv zs).toArray) a :=
  yields_load hw 35 x ho b 0 hx (bv zs) _ (fun u hu => (hc u hu).1.range) Tryd.underlying35 rfl (size32' zs hl)
theorem yields_loadM {ops : Array Oper} {C : World → Prop} {o : Oper} {a : Act} (hw : Region.wanted o (yielded ops a.tmps) = true) (x : Operand) (ho : o.op = .load 35 x) (b off : Nat) (hx : a.eval x = .pointer (some ⟨b, off, none⟩))
    (zs : List Int) (hl : zs.length = 32) (hc : ∀ u, C u → BytesAt u b off zs) : YieldsC Tryd.prog ops C o (.agg (bv zs).toArray) a :=
  yields_load hw 35 x ho b off hx (bv zs) _ (fun u hu => range_row (hc u hu)) Tryd.underlying35 rfl (size32' zs hl)
theorem eqD_same {b : Nat} {zs : List Int} {w0 : World} (h : Dg w0 b zs) (w : World) : (Op.equalIn 10000 35 (.agg (bv zs).toArray) (.agg (bv zs).toArray)).run Tryd.prog w = .ok true w := eqDig_same zs h.2 w
end Go.Proofs.YtllcgehfmkmcdaaDoor
namespace Go.Proofs.YtllcgehfmkmcdaaDoor
open Go.RowKit
set_option linter.unusedVariables false
set_option linter.unusedSimpArgs false

theorem all_range {xs ys : List Int} (hx : xs.length = 32) (hy : ys.length = 32) : ((List.range 32).all fun k => xs.getD k 0 == ys.getD k 0) = decide (xs = ys) := by
  rw [Bool.eq_iff_iff, List.all_eq_true, decide_eq_true_eq]
  constructor
  · intro h
    exact same32 hx hy fun j hj => by have := h j (by simpa using hj); simpa using this
  · rintro rfl k _; simp
theorem eqDig_d (d : Nat) (xs ys : List Int) (hx : xs.length = 32) (hy : ys.length = 32) (w : World) : (Op.equalIn (d + 1 + 1) 35 (.agg (bv xs).toArray) (.agg (bv ys).toArray)).run Tryd.prog w = .ok (decide (xs = ys)) w := by
  have hu : Tryd.prog.underlying 35 = some (.array 32 5) := by kernel_rfl
  have hc : Tryd.prog.cellsOf 5 = 1 := by kernel_rfl
  have hint : Tryd.prog.underlying 5 = some (.int .u8) := by kernel_rfl
  obtain ⟨i, hi⟩ := info_of_underlying hint
  have e : ∀ (a b : Int) (w : World), (Op.equalIn (d + 1) 5 (.int .u8 a) (.int .u8 b)).run Tryd.prog w = .ok (a == b) w := fun a b w => by
    rw [run_equalIn_int w d _ _ _ a b hint]
  have hagg : ∀ w : World, (isAgg 5).run Tryd.prog w = .ok false w := fun w => by
    unfold isAgg; rw [Sem.run_bind, run_underlying hint w]; rfl
  have hp : ∀ (xs : List Int), xs.length = 32 → ∀ (k : Nat) (w : World), k < 32 → (part 5 (bv xs).toArray k).run Tryd.prog w = .ok (.int .u8 (xs.getD k 0)) w := fun xs hx k w hk => by
    have hg := bv_get xs k (by omega)
    unfold part
    rw [Sem.run_bind, hagg w]
    simp only [Result.andThen_ok, Bool.false_eq_true, if_false]
    rw [hg]; rfl
  have items : ∀ l : List Nat, (∀ k ∈ l, k < 32) → (Op.eqItems (d + 1) 5 1 (bv xs).toArray (bv ys).toArray l).run Tryd.prog w = .ok (l.all fun k => xs.getD k 0 == ys.getD k 0) w := by
    intro l
    induction l with
    | nil => intro _; rfl
    | cons k l ih =>
      intro hl
      have hk := hl k (by simp)
      have ih' := ih fun j hj => hl j (by simp [hj])
      simp only [Op.eqItems, Sem.run_bind, Nat.mul_one, hp xs hx k w hk, hp ys hy k w hk, Result.andThen_ok, e, List.all_cons]
      cases hb : (xs.getD k 0 == ys.getD k 0) with
      | true => simpa using ih'
      | false => simp
  rw [run_equalIn_array w (d + 1) _ _ hu hi, hc, ← all_range hx hy]
  exact items _ fun k hk => by simpa using hk
theorem eqDig_any (xs ys : List Int) (hx : xs.length = 32) (hy : ys.length = 32) (w : World) : (Op.equalIn 10000 35 (.agg (bv xs).toArray) (.agg (bv ys).toArray)).run Tryd.prog w = .ok (decide (xs = ys)) w := eqDig_d 9998 xs ys hx hy w
end Go.Proofs.YtllcgehfmkmcdaaDoor
namespace Go.Proofs.YtllcgehfmkmcdaaDoor
open Go.RowKit
set_option linter.unusedVariables false
theorem list32 (zs : List Int) (h : zs.length = 32) : ∃ z0 z1 z2 z3 z4 z5 z6 z7 z8 z9 z10 z11 z12 z13 z14 z15 z16 z17 z18 z19 z20 z21 z22 z23 z24 z25 z26 z27 z28 z29 z30 z31 : Int, zs = [z0, z1, z2, z3, z4, z5, z6, z7, z8, z9, z10, z11, z12, z13, z14, z15, z16, z17, z18, z19, z20, z21, z22, z23, z24, z25, z26, z27, z28, z29, z30, z31] := by
  match zs, h with
  | [z0, z1, z2, z3, z4, z5, z6, z7, z8, z9, z10, z11, z12, z13, z14, z15, z16, z17, z18, z19, z20, z21, z22, z23, z24, z25, z26, z27, z28, z29, z30, z31], _ => exact ⟨z0, z1, z2, z3, z4, z5, z6, z7, z8, z9, z10, z11, z12, z13, z14, z15, z16, z17, z18, z19, z20, z21, z22, z23, z24, z25, z26, z27, z28, z29, z30, z31, rfl⟩
end Go.Proofs.YtllcgehfmkmcdaaDoor
