/- Whole digests in blocks of their own: stored, loaded, carried (the part of DigSt that stands on no tree and on no signature). Equal digests, any two. bytes.Compare of two digests; the order of digests. Lists of digests: in memory, in order. Lists of digests: appended zeros, copies into a row of one's own. slices.Clip and slices.Insert of digests. A slice of one digest, made (DigBuild, standing on no tree). slices.Insert of a digest at its place, whatever the list. Lists in order with the same members are equal; put keeps the order. Equal lists, in the reference: frankingref16.Same; slices of two digests. -/
import Derived.Test.YtcedmiojmepioaaGreatDoorDigTag
import Derived.Test.YtcedmiojmepioaaGreatDoorDigPadW
import Derived.Test.YtcedmiojmepioaaGreatDoorDigByt
import Derived.Test.YtcedmiojmepioaaGreatDoorDigEq
import Derived.Test.YtcedmiojmepioaaGreatDoorRegU
import Derived.Laws.StructEq
import Derived.ChangeKeysEq
import Derived.Laws.Externs
import Derived.Lib.BytesEntry
import Derived.Laws.AppendOwn
import Derived.Laws.AppendOwnNone
import Derived.ArgAppend
import Derived.Lib.AppendZerosOnto
import Derived.Laws.CopyRow
namespace Go.Proofs.YtcedmiojmepioaaGreatDoor
open Go.RowKit
set_option linter.unusedVariables false
set_option linter.unusedSimpArgs false

theorem bel_range {n b off : Nat} {w w' : World} {cs : List Value} (k : Below n w w') (h : w.rangeAt b off cs) (hb : b < n) : w'.rangeAt b off cs := fun j v hv => (k.cell (p := ⟨b, off + j, none⟩) hb).trans (h j v hv)
/-- a row of digests, read -/
theorem range_row {w : World} {b off : Nat} {zs : List Int} (h : BytesAt w b off zs) : w.rangeAt b off (bv zs) := fun j v hv => by
  have hj : j < zs.length := by
    have := (List.getElem?_eq_some_iff.1 hv).1
    rwa [bv_len] at this
  have h2 := bv_get zs j hj
  rw [List.getElem?_toArray, hv] at h2
  rw [h j hj]; exact h2.symm

/-- the digest zs lies in the block b -/
def Dg (w : World) (b : Nat) (zs : List Int) : Prop := Blk w b (bv zs).toArray 25 ∧ zs.length = 32
theorem Dg.lt {w : World} {b : Nat} {zs : List Int} (h : Dg w b zs) : b < w.heap.size := h.1.lt
theorem Dg.below {w w' : World} {n b : Nat} {zs : List Int} (h : Dg w b zs) (k : Below n w w') (hb : b < n) : Dg w' b zs := ⟨h.1.below k hb, h.2⟩
theorem Dg.bel {w w' : World} {b : Nat} {zs : List Int} (h : Dg w b zs) (k : Below w.heap.size w w') : Dg w' b zs := h.below k h.lt
theorem Dg.alloc {w : World} {b : Nat} {zs : List Int} (h : Dg w b zs) (o : Obj) : Dg (w.alloc o) b zs := ⟨h.1.alloc o, h.2⟩
theorem Dg.drew {w : World} {b : Nat} {zs : List Int} (h : Dg w b zs) : Dg w.drew b zs := h
theorem Dg.bytes {w : World} {b : Nat} {zs : List Int} (h : Dg w b zs) : BytesAt w b 0 zs := bytes_run h.1
theorem Dg.new (w : World) : Dg (w.alloc (.cells #[.int .u8 0, .int .u8 0, .int .u8 0, .int .u8 0, .int .u8 0, .int .u8 0, .int .u8 0, .int .u8 0, .int .u8 0, .int .u8 0, .int .u8 0, .int .u8 0, .int .u8 0, .int .u8 0, .int .u8 0, .int .u8 0, .int .u8 0, .int .u8 0, .int .u8 0, .int .u8 0, .int .u8 0, .int .u8 0, .int .u8 0, .int .u8 0, .int .u8 0, .int .u8 0, .int .u8 0, .int .u8 0, .int .u8 0, .int .u8 0, .int .u8 0, .int .u8 0] 25)) w.heap.size (List.replicate 32 0) := ⟨zeros32 w, rfl⟩
theorem Dg.box (w : World) {zs : List Int} (h : zs.length = 32) : Dg (w.alloc (.cells (bv zs).toArray 25)) w.heap.size zs := ⟨Blk.new w _ _, h⟩
/-- the block b alone was written -/
structure Wrote (w w' : World) (b : Nat) : Prop where
  os : w'.os = w.os
  tape : w'.tape = w.tape
  output : w'.output = w.output
  size : w'.heap.size = w.heap.size
  block : ∀ k, k ≠ b → w'.heap[k]? = w.heap[k]?
theorem Dg.wrote {w w' : World} {b c : Nat} {zs : List Int} (h : Dg w b zs) (k : Wrote w w' c) (hne : b ≠ c) : Dg w' b zs := ⟨(k.block b hne).trans h.1, h.2⟩
theorem BytesAt.wrote {w w' : World} {b c off : Nat} {zs : List Int} (h : BytesAt w b off zs) (k : Wrote w w' c) (hne : b ≠ c) : BytesAt w' b off zs := fun j hj => (World.cell?_of_block (a := ⟨b, off + j, none⟩) (k.block b hne)).trans (h j hj)
theorem Wrote.below {w w' : World} {b n : Nat} (k : Wrote w w' b) (h : n ≤ b) : Below n w w' := ⟨k.os, k.tape, k.output, by rw [k.size]; exact Nat.le_refl _, fun i hi => k.block i (by omega)⟩
theorem wrote_setCells (b : Nat) : ∀ (vs : List Value) (o : Nat) (w : World), Wrote w (w.setCells b o vs) b
  | [], _, w => ⟨rfl, rfl, rfl, rfl, fun _ _ => rfl⟩
  | v :: r, o, w => by
    have h := wrote_setCells b r (o + 1) (w.setCell ⟨b, o, none⟩ v)
    rw [setCells_cons]
    have h1 := (setCells_below (n := 0) (Nat.zero_le b) [v] o (Below.refl 0 w))
    refine ⟨h.os.trans h1.os, h.tape.trans h1.tape, h.output.trans h1.output, h.size.trans (size_setCells b [v] o w), fun k hk => (h.block k hk).trans ?_⟩
    exact Below.heap_setCell w ⟨b, o, none⟩ v k hk
/-- a digest is stored whole -/
theorem list_storeD {ops : Array Oper} {rest : List Oper} {o : Oper} {a : Act} {w : World} {Q : Exit → Act → World → Prop} (hgd : o.guard = none) (x y : Operand) (ho : o.op = .store 25 x y)
    (b : Nat) (hx : a.eval x = .pointer (some ⟨b, 0, none⟩)) (ds : List Int) (hy : a.eval y = .agg (bv ds).toArray) (ld : ds.length = 32) (zs : List Int) (hb : Dg w b zs)
    (h : ∀ w', Dg w' b ds → Wrote w w' b → wpList Tryz.prog ops Q rest (a.put o.dst undef) w') : wpList Tryz.prog ops Q (o :: rest) a w := by
  refine wpList_store_mid hgd 25 x y ho b 0 (bv ds).toArray hx hy ?_ (size32 ds ld) (all_oneCell_toArray (bv_one ds)) ?_
  · have := hb.1.there
    simp only [bv_len, hb.2] at this
    simp only [List.size_toArray, bv_len, ld]
    exact this
  · exact h _ ⟨hb.1.fill (by rw [bv_len, bv_len, hb.2, ld]), ld⟩ (wrote_setCells b _ 0 w)
/-- a digest is loaded whole -/
theorem list_loadD {ops : Array Oper} {Q : Exit → Act → World → Prop} {o : Oper} {rest : List Oper} {a : Act} {w : World} (hw : Region.wanted o (yielded ops a.tmps) = true) (x : Operand) (ho : o.op = .load 25 x) (b : Nat) (hx : a.eval x = .pointer (some ⟨b, 0, none⟩))
    (zs : List Int) (hb : Dg w b zs) (h : wpList Tryz.prog ops Q rest (a.put o.dst (.agg (bv zs).toArray)) w) : wpList Tryz.prog ops Q (o :: rest) a w :=
  list_load hw 25 x ho b 0 hx (bv zs) _ hb.1.range Tryz.underlying25 rfl (size32' zs hb.2) h
/-- .. in the midst of a row of digests -/
theorem list_loadM {ops : Array Oper} {Q : Exit → Act → World → Prop} {o : Oper} {rest : List Oper} {a : Act} {w : World} (hw : Region.wanted o (yielded ops a.tmps) = true) (x : Operand) (ho : o.op = .load 25 x) (b off : Nat) (hx : a.eval x = .pointer (some ⟨b, off, none⟩))
    (zs : List Int) (hb : BytesAt w b off zs) (hl : zs.length = 32) (h : wpList Tryz.prog ops Q rest (a.put o.dst (.agg (bv zs).toArray)) w) : wpList Tryz.prog ops Q (o :: rest) a w :=
  list_load hw 25 x ho b off hx (bv zs) _ (range_row hb) Tryz.underlying25 rfl (size32' zs hl) h
theorem yields_loadD {ops : Array Oper} {C : World → Prop} {o : Oper} {a : Act} (hw : Region.wanted o (yielded ops a.tmps) = true) (x : Operand) (ho : o.op = .load 25 x) (b : Nat) (hx : a.eval x = .pointer (some ⟨b, 0, none⟩))
    (zs : List Int) (hl : zs.length = 32) (hc : ∀ u, C u → Dg u b zs) : YieldsC Tryz.prog ops C o (.agg (bv zs).toArray) a :=
  yields_load hw 25 x ho b 0 hx (bv zs) _ (fun u hu => (hc u hu).1.range) Tryz.underlying25 rfl (size32' zs hl)
theorem yields_loadM {ops : Array Oper} {C : World → Prop} {o : Oper} {a : Act} (hw : Region.wanted o (yielded ops a.tmps) = true) (x : Operand) (ho : o.op = .load 25 x) (b off : Nat) (hx : a.eval x = .pointer (some ⟨b, off, none⟩))
    (zs : List Int) (hl : zs.length = 32) (hc : ∀ u, C u → BytesAt u b off zs) : YieldsC Tryz.prog ops C o (.agg (bv zs).toArray) a :=
  yields_load hw 25 x ho b off hx (bv zs) _ (fun u hu => range_row (hc u hu)) Tryz.underlying25 rfl (size32' zs hl)
theorem eqD_same {b : Nat} {zs : List Int} {w0 : World} (h : Dg w0 b zs) (w : World) : (Op.equalIn 10000 25 (.agg (bv zs).toArray) (.agg (bv zs).toArray)).run Tryz.prog w = .ok true w := eqDig_same zs h.2 w
end Go.Proofs.YtcedmiojmepioaaGreatDoor
namespace Go.Proofs.YtcedmiojmepioaaGreatDoor
open Go.RowKit
set_option linter.unusedVariables false
set_option linter.unusedSimpArgs false

theorem all_range {xs ys : List Int} (hx : xs.length = 32) (hy : ys.length = 32) : ((List.range 32).all fun k => xs.getD k 0 == ys.getD k 0) = decide (xs = ys) := by
  rw [Bool.eq_iff_iff, List.all_eq_true, decide_eq_true_eq]
  constructor
  · intro h
    exact same32 hx hy fun j hj => by have := h j (by simpa using hj); simpa using this
  · rintro rfl k _; simp
theorem eqDig_d (d : Nat) (xs ys : List Int) (hx : xs.length = 32) (hy : ys.length = 32) (w : World) : (Op.equalIn (d + 1 + 1) 25 (.agg (bv xs).toArray) (.agg (bv ys).toArray)).run Tryz.prog w = .ok (decide (xs = ys)) w := by
  have hu : Tryz.prog.underlying 25 = some (.array 32 5) := by kernel_rfl
  have hc : Tryz.prog.cellsOf 5 = 1 := by kernel_rfl
  have hint : Tryz.prog.underlying 5 = some (.int .u8) := by kernel_rfl
  obtain ⟨i, hi⟩ := info_of_underlying hint
  have e : ∀ (a b : Int) (w : World), (Op.equalIn (d + 1) 5 (.int .u8 a) (.int .u8 b)).run Tryz.prog w = .ok (a == b) w := fun a b w => by
    rw [run_equalIn_int w d _ _ _ a b hint]
  have hagg : ∀ w : World, (isAgg 5).run Tryz.prog w = .ok false w := fun w => by
    unfold isAgg; rw [Sem.run_bind, run_underlying hint w]; rfl
  have hp : ∀ (xs : List Int), xs.length = 32 → ∀ (k : Nat) (w : World), k < 32 → (part 5 (bv xs).toArray k).run Tryz.prog w = .ok (.int .u8 (xs.getD k 0)) w := fun xs hx k w hk => by
    have hg := bv_get xs k (by omega)
    unfold part
    rw [Sem.run_bind, hagg w]
    simp only [Result.andThen_ok, Bool.false_eq_true, if_false]
    rw [hg]; rfl
  have items : ∀ l : List Nat, (∀ k ∈ l, k < 32) → (Op.eqItems (d + 1) 5 1 (bv xs).toArray (bv ys).toArray l).run Tryz.prog w = .ok (l.all fun k => xs.getD k 0 == ys.getD k 0) w := by
    intro l
    induction l with
    | nil => intro _; rfl
    | cons k l ih =>
      intro hl
      have hk := hl k (by simp)
      have ih' := ih fun j hj => hl j (by simp [hj])
      simp only [Op.eqItems, Sem.run_bind, Nat.mul_one, hp xs hx k w hk, hp ys hy k w hk, Result.andThen_ok, e, List.all_cons]
      cases hb : (xs.getD k 0 == ys.getD k 0) with
      | true => simpa using ih'
      | false => simp
  rw [run_equalIn_array w (d + 1) _ _ hu hi, hc, ← all_range hx hy]
  exact items _ fun k hk => by simpa using hk
theorem eqDig_any (xs ys : List Int) (hx : xs.length = 32) (hy : ys.length = 32) (w : World) : (Op.equalIn 10000 25 (.agg (bv xs).toArray) (.agg (bv ys).toArray)).run Tryz.prog w = .ok (decide (xs = ys)) w := eqDig_d 9998 xs ys hx hy w
end Go.Proofs.YtcedmiojmepioaaGreatDoor
namespace Go.Proofs.YtcedmiojmepioaaGreatDoor
open Go.RowKit
set_option linter.unusedVariables false
set_option linter.unusedSimpArgs false

/-- the order of texts -/
def cmpZ : List Int → List Int → Int
  | [], [] => 0
  | [], _ :: _ => -1
  | _ :: _, [] => 1
  | a :: ar, b :: bs => if a < b then -1 else if b < a then 1 else cmpZ ar bs
theorem cmpZ_val : ∀ xs ys : List Int, cmpZ xs ys = -1 ∨ cmpZ xs ys = 0 ∨ cmpZ xs ys = 1
  | [], [] => .inr (.inl rfl)
  | [], _ :: _ => .inl rfl
  | _ :: _, [] => .inr (.inr rfl)
  | a :: ar, b :: bs => by
    unfold cmpZ
    split
    · exact .inl rfl
    · split
      · exact .inr (.inr rfl)
      · exact cmpZ_val ar bs
theorem cmpZ_eq : ∀ xs ys : List Int, cmpZ xs ys = 0 ↔ xs = ys
  | [], [] => by simp [cmpZ]
  | [], _ :: _ => by simp [cmpZ]
  | _ :: _, [] => by simp [cmpZ]
  | a :: ar, b :: bs => by
    unfold cmpZ
    split
    · simp; intro h; omega
    · split
      · simp; intro h; omega
      · rw [cmpZ_eq ar bs]
        have : a = b := by omega
        simp [this]
theorem cmpZ_self (xs : List Int) : cmpZ xs xs = 0 := (cmpZ_eq xs xs).2 rfl
theorem cmpZ_swap : ∀ xs ys : List Int, cmpZ ys xs = - cmpZ xs ys
  | [], [] => by simp [cmpZ]
  | [], _ :: _ => by simp [cmpZ]
  | _ :: _, [] => by simp [cmpZ]
  | a :: ar, b :: bs => by
    unfold cmpZ
    rcases (by omega : a < b ∨ b < a ∨ a = b) with h | h | h
    · simp [h, show ¬ b < a by omega]
    · simp [h, show ¬ a < b by omega]
    · subst h; simp; exact cmpZ_swap ar bs
theorem cmpZ_trans : ∀ xs ys zs : List Int, cmpZ xs ys < 0 → cmpZ ys zs < 0 → cmpZ xs zs < 0
  | _, [], [], _, h => by simp [cmpZ] at h
  | [], _, [], h, k => by
    rename_i ys
    cases ys with
    | nil => simp [cmpZ] at h
    | cons => simp [cmpZ] at k
  | [], _, _ :: _, _, _ => by simp [cmpZ]
  | _ :: _, [], _, h, _ => by simp [cmpZ] at h
  | _ :: _, _ :: _, [], _, h => by simp [cmpZ] at h
  | a :: ar, b :: bs, c :: cs, h, k => by
    unfold cmpZ at h k ⊢
    rcases (by omega : a < b ∨ b < a ∨ a = b) with e | e | e
    · rcases (by omega : b < c ∨ c < b ∨ b = c) with f | f | f
      · simp [show a < c by omega]
      · simp [f, show ¬ b < c by omega] at k
      · simp [show a < c by omega]
    · simp [e, show ¬ a < b by omega] at h
    · subst e
      simp at h
      split
      · omega
      · split at k
        · omega
        · split at k
          · omega
          · simp [show ¬ c < a by assumption]
            exact cmpZ_trans ar bs cs h k
/-- comes before -/
def ltD (x y : List Int) : Bool := decide (cmpZ x y < 0)
theorem ltD_irrefl (x : List Int) : ltD x x = false := by simp [ltD, cmpZ_self]
theorem ltD_trans {x y z : List Int} (h : ltD x y = true) (k : ltD y z = true) : ltD x z = true := by
  simp only [ltD, decide_eq_true_eq] at h k ⊢; exact cmpZ_trans x y z h k
theorem ltD_asymm {x y : List Int} (h : ltD x y = true) : ltD y x = false := by
  simp only [ltD, decide_eq_true_eq, decide_eq_false_iff_not] at h ⊢
  have := cmpZ_swap x y; omega
theorem ltD_tri {x y : List Int} (h : ltD x y = false) (hne : x ≠ y) : ltD y x = true := by
  simp only [ltD, decide_eq_true_eq, decide_eq_false_iff_not] at h ⊢
  have := cmpZ_swap x y
  have h0 : cmpZ x y ≠ 0 := fun e => hne ((cmpZ_eq x y).1 e)
  omega
theorem u8_lt {a b : Int} (ha : 0 ≤ a ∧ a ≤ 255) (hb : 0 ≤ b ∧ b ≤ 255) : (a.toNat.toUInt8 < b.toNat.toUInt8) ↔ a < b := by
  rw [UInt8.lt_iff_toNat_lt]
  simp [Nat.toUInt8]
  omega
theorem cmp_bytes : ∀ xs ys : List Int, (∀ z ∈ xs, 0 ≤ z ∧ z ≤ 255) → (∀ z ∈ ys, 0 ≤ z ∧ z ≤ 255) → Lib.compareBytes (Lib.bytesOf xs) (Lib.bytesOf ys) = cmpZ xs ys
  | [], [], _, _ => rfl
  | [], _ :: _, _, _ => rfl
  | _ :: _, [], _, _ => rfl
  | a :: ar, b :: bs, hx, hy => by
    have ih := cmp_bytes ar bs (fun z h => hx z (List.mem_cons_of_mem _ h)) (fun z h => hy z (List.mem_cons_of_mem _ h))
    have ha := hx a List.mem_cons_self
    have hb := hy b List.mem_cons_self
    have e : Lib.compareBytes (Lib.bytesOf (a :: ar)) (Lib.bytesOf (b :: bs)) = if a.toNat.toUInt8 < b.toNat.toUInt8 then -1 else if b.toNat.toUInt8 < a.toNat.toUInt8 then 1 else Lib.compareBytes (Lib.bytesOf ar) (Lib.bytesOf bs) := rfl
    rw [e, ih]
    show _ = if a < b then -1 else if b < a then 1 else cmpZ ar bs
    simp only [u8_lt ha hb, u8_lt hb ha]
theorem run_bytesOfS {w : World} {P : Program} (b off c : Nat) (xs : List Int) (hb : BytesAt w b off xs) : (Extern.Bytes.bytesOf (.slice (some ⟨b, off, none⟩) xs.length c)).run P w = .ok ⟨(Lib.bytesOf xs).toArray⟩ w := by
  have hl := Lib.run_loadBytesX (P := P) w xs ⟨b, off, none⟩ .empty (fun j x hj => by
    have hjl : j < xs.length := (List.getElem?_eq_some_iff.1 hj).1
    have e : (⟨b, off, none⟩ : Addr).add j = ⟨b, off + j, none⟩ := by unfold Addr.add; split <;> simp_all
    rw [e, hb j hjl, List.getD_eq_getElem?_getD, hj]
    rfl)
  have he : (⟨ByteArray.empty.data ++ (Lib.bytesOf xs).toArray⟩ : ByteArray) = ⟨(Lib.bytesOf xs).toArray⟩ := by
    apply ByteArray.ext
    show (#[] : Array UInt8) ++ (Lib.bytesOf xs).toArray = (Lib.bytesOf xs).toArray
    simp
  rw [he] at hl
  exact hl
theorem run_compareS {w : World} {P : Program} (a oa ca b ob cb : Nat) (xs ys : List Int) (ha : BytesAt w a oa xs) (hb : BytesAt w b ob ys) (rx : ∀ z ∈ xs, 0 ≤ z ∧ z ≤ 255) (ry : ∀ z ∈ ys, 0 ≤ z ∧ z ≤ 255) :
    (Extern.BytealgCompare.compare #[.slice (some ⟨a, oa, none⟩) xs.length ca, .slice (some ⟨b, ob, none⟩) ys.length cb]).run P w = .ok (.int .i64 (cmpZ xs ys)) w := by
  change Sem.run P (do pure (goInt (Extern.BytealgCompare.cmp (← Extern.Bytes.bytesOf (.slice (some ⟨a, oa, none⟩) xs.length ca)) (← Extern.Bytes.bytesOf (.slice (some ⟨b, ob, none⟩) ys.length cb))))) w = _
  simp only [Sem.run_bind, Sem.run_pure, run_bytesOfS a oa ca xs ha, run_bytesOfS b ob cb ys hb, Result.andThen]
  rw [Lib.cmp_eq]
  simp only [cmp_bytes xs ys rx ry]
  rfl
set_option maxRecDepth 100000 in
set_option maxHeartbeats 1000000 in
theorem bcmp_is (a oa b ob : Nat) (xs ys : List Int) (w : World) (lx : Hid (xs.length = 32)) (ly : Hid (ys.length = 32)) (ha : Hid (BytesAt w a oa xs)) (hb : Hid (BytesAt w b ob ys)) (rx : Hid (∀ z ∈ xs, 0 ≤ z ∧ z ≤ 255)) (ry : Hid (∀ z ∈ ys, 0 ≤ z ∧ z ≤ 255)) :
    Calls Tryz.prog 48 #[.slice (some ⟨a, oa, none⟩) 32 32, .slice (some ⟨b, ob, none⟩) 32 32] w fun e w' => e = .returned (.int .i64 (cmpZ xs ys)) ∧ w' = w := by
  go_enter Tryz.func48, Tryz.ntmps48
  go_wp2
  have hr := run_compareS (P := Tryz.prog) a oa 32 b ob 32 xs ys ha.out hb.out rx.out ry.out
  rw [lx.out, ly.out] at hr
  rw [run_callFunc_extern Tryz.func66 (by kernel_rfl) (by kernel_rfl) (by kernel_rfl) (e := Extern.BytealgCompare.compare) (by kernel_rfl), hr]
  simp only [Result.andThen]
  rw [Oper.upon_value]
  go_wp2
  go_ret
  exact ⟨rfl, rfl⟩
end Go.Proofs.YtcedmiojmepioaaGreatDoor
namespace Go.Proofs.YtcedmiojmepioaaGreatDoor
open Go.RowKit
set_option linter.unusedVariables false
set_option linter.unusedSimpArgs false

def Dgs (l : List (List Int)) : Prop := ∀ d ∈ l, d.length = 32 ∧ ∀ z ∈ d, 0 ≤ z ∧ z ≤ 255
theorem Dgs.nil : Dgs [] := fun d h => by cases h
theorem Dgs.tail {d : List Int} {l : List (List Int)} (h : Dgs (d :: l)) : Dgs l := fun x hx => h x (List.mem_cons_of_mem _ hx)
theorem Dgs.cons {d : List Int} {l : List (List Int)} (h1 : d.length = 32) (h2 : ∀ z ∈ d, 0 ≤ z ∧ z ≤ 255) (h : Dgs l) : Dgs (d :: l) := fun x hx => by
  rcases List.mem_cons.1 hx with rfl | hx
  · exact ⟨h1, h2⟩
  · exact h x hx
theorem Dgs.app {l r : List (List Int)} (h : Dgs l) (k : Dgs r) : Dgs (l ++ r) := fun x hx => (List.mem_append.1 hx).elim (h x) (k x)
theorem Dgs.take {l : List (List Int)} (h : Dgs l) (k : Nat) : Dgs (l.take k) := fun x hx => h x (List.mem_of_mem_take hx)
theorem Dgs.drop {l : List (List Int)} (h : Dgs l) (k : Nat) : Dgs (l.drop k) := fun x hx => h x (List.mem_of_mem_drop hx)
theorem Dgs.get {l : List (List Int)} (h : Dgs l) {k : Nat} (hk : k < l.length) : (l.getD k []).length = 32 ∧ ∀ z ∈ l.getD k [], 0 ≤ z ∧ z ≤ 255 := by
  rw [List.getD_eq_getElem?_getD, List.getElem?_eq_getElem hk]; exact h _ (List.getElem_mem hk)
theorem flat_len : ∀ {l : List (List Int)}, Dgs l → l.flatten.length = 32 * l.length
  | [], _ => rfl
  | d :: l, h => by rw [List.flatten_cons, List.length_append, flat_len h.tail, (h d List.mem_cons_self).1, List.length_cons]; omega
theorem flat_get : ∀ {l : List (List Int)} (h : Dgs l) (k : Nat) (hk : k < l.length) (j : Nat) (hj : j < 32), l.flatten.getD (k * 32 + j) 0 = (l.getD k []).getD j 0
  | [], _, k, hk, _, _ => by simp at hk
  | d :: l, h, 0, _, j, hj => by
    have hd := (h d List.mem_cons_self).1
    rw [List.flatten_cons, List.getD_eq_getElem?_getD, List.getElem?_append_left (by omega)]
    simp [List.getD]
  | d :: l, h, k + 1, hk, j, hj => by
    have hd := (h d List.mem_cons_self).1
    have ih := flat_get h.tail k (by simpa using hk) j hj
    rw [List.flatten_cons, List.getD_eq_getElem?_getD, List.getElem?_append_right (by omega), hd, show (k + 1) * 32 + j - 32 = k * 32 + j by omega, ← List.getD_eq_getElem?_getD, ih]
    simp [List.getD]
theorem flat_at {w : World} {b off : Nat} {l : List (List Int)} (hl : Dgs l) (h : BytesAt w b off l.flatten) {k : Nat} (hk : k < l.length) : BytesAt w b (off + k * 32) (l.getD k []) := fun j hj => by
  have h32 := (hl.get hk).1
  have := h (k * 32 + j) (by rw [flat_len hl]; omega)
  rw [Nat.add_assoc, this, flat_get hl k hk j (by omega)]
theorem BytesAt.take' {w : World} {b off : Nat} {l : List (List Int)} (hl : Dgs l) (h : BytesAt w b off l.flatten) (k : Nat) : BytesAt w b off (l.take k).flatten := fun j hj => by
  have e : l.flatten = (l.take k).flatten ++ (l.drop k).flatten := by rw [← List.flatten_append, List.take_append_drop]
  have := h j (by rw [e, List.length_append]; omega)
  rw [this, e, List.getD_eq_getElem?_getD, List.getElem?_append_left hj, ← List.getD_eq_getElem?_getD]
theorem BytesAt.drop' {w : World} {b off : Nat} {l : List (List Int)} (hl : Dgs l) (h : BytesAt w b off l.flatten) {k : Nat} (hk : k ≤ l.length) : BytesAt w b (off + k * 32) (l.drop k).flatten := fun j hj => by
  have e : l.flatten = (l.take k).flatten ++ (l.drop k).flatten := by rw [← List.flatten_append, List.take_append_drop]
  have h32 : (l.take k).flatten.length = k * 32 := by rw [flat_len (hl.take k), List.length_take]; omega
  have := h (k * 32 + j) (by rw [e, List.length_append]; omega)
  rw [Nat.add_assoc, this, e, List.getD_eq_getElem?_getD, List.getElem?_append_right (by omega), h32, Nat.add_sub_cancel_left, ← List.getD_eq_getElem?_getD]
/-- a slice of digests, read -/
def SrcL (w : World) (p : Option Addr) (n c : Nat) (l : List (List Int)) : Prop :=
  n = l.length ∧ n ≤ c ∧ c ≤ maxLen ∧ ((n = 0 ∧ (p = none → c = 0)) ∨ ∃ b off, p = some ⟨b, off, none⟩ ∧ b < w.heap.size ∧ BytesAt w b off l.flatten)
theorem SrcL.below {w w' : World} {p : Option Addr} {n c : Nat} {l : List (List Int)} (h : SrcL w p n c l) (k : Below w.heap.size w w') : SrcL w' p n c l := by
  obtain ⟨h1, h2, h3, h4 | ⟨b, off, rfl, hb, hc⟩⟩ := h
  · exact ⟨h1, h2, h3, .inl h4⟩
  · exact ⟨h1, h2, h3, .inr ⟨b, off, rfl, Nat.lt_of_lt_of_le hb k.size, hc.below k hb⟩⟩
theorem SrcL.pos {w : World} {p : Option Addr} {n c : Nat} {l : List (List Int)} (h : SrcL w p n c l) (hn : 0 < n) : ∃ b off, p = some ⟨b, off, none⟩ ∧ b < w.heap.size ∧ BytesAt w b off l.flatten := by
  obtain ⟨_, _, _, h4 | h4⟩ := h
  · omega
  · exact h4
/-- digests of the walk's own -/
def OwnR (w : World) (B : Nat) (v : Value) (n : Nat) (fs : List Int) : Prop := w.ownsRow B 25 32 v n (bv fs)
theorem ownR_below {w w' : World} {B n : Nat} {v : Value} {zs : List Int} (h : OwnR w B v n zs) (k : Below w.heap.size w w') : OwnR w' B v n zs := by
  refine World.ownsRow.kept (row := none) h ⟨k.os, k.tape, k.output, k.size, fun i hi _ => k.block i hi⟩ ?_
  cases hv : v.ownBlock with
  | none => exact .inl rfl
  | some b => exact .inr (by simp)
theorem ownR_base {w : World} {B B' n : Nat} {v : Value} {zs : List Int} (h : OwnR w B' v n zs) (hB : B ≤ B') : OwnR w B v n zs := by
  obtain ⟨h1, h2⟩ := h
  refine ⟨h1, h2.imp id ?_⟩
  rintro ⟨g, cap, cur, e, hg, r⟩
  exact ⟨g, cap, cur, e, Nat.le_trans hB hg, r⟩
/-- .. as a slice to read -/
theorem ownR_src {w : World} {B : Nat} {v : Value} {l : List (List Int)} (hl : Dgs l) (h : OwnR w B v l.length l.flatten) : ∃ p cap, v = .slice p l.length cap ∧ SrcL w p l.length cap l := by
  obtain ⟨h1, h2⟩ := h
  rw [bv_len] at h1
  rcases h2 with ⟨rfl, h0⟩ | ⟨g, cap, cur, rfl, hBg, hg, hn, hm, hs, ht⟩
  · refine ⟨none, 0, by rw [h0], ⟨rfl, by omega, by decide, .inl ⟨h0, fun _ => rfl⟩⟩⟩
  · refine ⟨_, cap, rfl, ⟨rfl, hn, hm, .inr ⟨g, 0, rfl, (Array.getElem?_eq_some_iff.1 hg).1, ?_⟩⟩⟩
    intro j hj
    have h3 : (cur.toList.take (l.length * 32))[j]? = (bv l.flatten)[j]? := by rw [ht]
    rw [List.getElem?_take, if_pos (by omega)] at h3
    simp only [World.cell?, hg, Nat.zero_add]
    have h4 : cur[j]? = some (.int .u8 (l.flatten.getD j 0)) := by
      rw [← Array.getElem?_toList, h3, bv, List.getElem?_map, List.getElem?_eq_getElem hj, List.getD_eq_getElem?_getD, List.getElem?_eq_getElem hj]; rfl
    rw [h4]; rfl
/-- in order -/
def adjOK (l : List (List Int)) : Prop := ∀ j, j + 1 < l.length → ltD (l.getD j []) (l.getD (j + 1) []) = true
theorem adj_lt {l : List (List Int)} (h : adjOK l) : ∀ (i d : Nat), i + d + 1 < l.length → ltD (l.getD i []) (l.getD (i + d + 1) []) = true
  | i, 0, hd => h i hd
  | i, d + 1, hd => ltD_trans (adj_lt h i d (by omega)) (h (i + d + 1) hd)
theorem adj_lt' {l : List (List Int)} (h : adjOK l) {i j : Nat} (hij : i < j) (hj : j < l.length) : ltD (l.getD i []) (l.getD j []) = true := by
  have := adj_lt h i (j - i - 1) (by omega)
  rwa [show i + (j - i - 1) + 1 = j by omega] at this
/-- the place of a digest -/
def IsPos (l : List (List Int)) (d : List Int) (i : Nat) : Prop := i ≤ l.length ∧ (∀ k, k < i → ltD (l.getD k []) d = true) ∧ ∀ k, i ≤ k → k < l.length → ltD (l.getD k []) d = false
theorem isPos_unique {l : List (List Int)} {d : List Int} {i j : Nat} (h : IsPos l d i) (k : IsPos l d j) : i = j := by
  rcases Nat.lt_trichotomy i j with e | e | e
  · have a := h.2.2 i (Nat.le_refl _) (by have := k.1; omega)
    rw [k.2.1 i e] at a; cases a
  · exact e
  · have a := k.2.2 j (Nat.le_refl _) (by have := h.1; omega)
    rw [h.2.1 j e] at a; cases a
/-- is it there? -/
def hasD (l : List (List Int)) (d : List Int) : Bool := l.contains d
theorem has_pos {l : List (List Int)} {d : List Int} {i : Nat} (ha : adjOK l) (h : IsPos l d i) : hasD l d = true ↔ (i < l.length ∧ l.getD i [] = d) := by
  unfold hasD
  rw [List.contains_iff_mem]
  constructor
  · intro hm
    obtain ⟨k, hk, e⟩ := List.getElem_of_mem hm
    have ek : l.getD k [] = d := by rw [List.getD_eq_getElem?_getD, List.getElem?_eq_getElem hk]; exact e
    have hki : i ≤ k := by
      apply Nat.le_of_not_lt
      intro hlt
      have := h.2.1 k hlt
      rw [ek, ltD_irrefl] at this; cases this
    rcases Nat.lt_or_ge i k with hlt | hge
    · have h1 := adj_lt' ha hlt hk
      have h2 := h.2.2 i (Nat.le_refl _) (by omega)
      rw [ek] at h1
      rw [h1] at h2; cases h2
    · obtain rfl : i = k := by omega
      exact ⟨hk, ek⟩
  · rintro ⟨hi, rfl⟩
    rw [List.getD_eq_getElem?_getD, List.getElem?_eq_getElem hi]
    exact List.getElem_mem hi
theorem isPos_ex {l : List (List Int)} (ha : adjOK l) (d : List Int) : ∃ i, IsPos l d i := by
  have key : ∀ n, n ≤ l.length → (∀ k, k < l.length - n → ltD (l.getD k []) d = true) → ∃ i, IsPos l d i := by
    intro n
    induction n with
    | zero => intro _ h; exact ⟨l.length, Nat.le_refl _, fun k hk => h k (by omega), fun k h1 h2 => by omega⟩
    | succ n ih =>
      intro hn h
      cases hq : ltD (l.getD (l.length - (n + 1)) []) d with
      | false =>
        refine ⟨l.length - (n + 1), by omega, h, fun k h1 h2 => ?_⟩
        rcases Nat.lt_or_ge (l.length - (n + 1)) k with e | e
        · cases hk : ltD (l.getD k []) d with
          | false => rfl
          | true =>
            have := ltD_trans (adj_lt' ha e h2) hk
            rw [hq] at this; cases this
        · rw [show k = l.length - (n + 1) by omega]; exact hq
      | true =>
        refine ih (by omega) fun k hk => ?_
        rcases Nat.lt_or_ge k (l.length - (n + 1)) with e | e
        · exact h k e
        · rw [show k = l.length - (n + 1) by omega]; exact hq
  exact key l.length (Nat.le_refl _) (fun k hk => by omega)
/-- put into its place -/
def putD (l : List (List Int)) (d : List Int) (i : Nat) : List (List Int) := l.take i ++ d :: l.drop i
theorem putD_len (l : List (List Int)) (d : List Int) (i : Nat) (h : i ≤ l.length) : (putD l d i).length = l.length + 1 := by
  unfold putD
  rw [List.length_append, List.length_cons, List.length_take, List.length_drop]; omega
theorem Dgs.put {l : List (List Int)} {d : List Int} (h : Dgs l) (h1 : d.length = 32) (h2 : ∀ z ∈ d, 0 ≤ z ∧ z ≤ 255) (i : Nat) : Dgs (putD l d i) := (h.take i).app (Dgs.cons h1 h2 (h.drop i))
end Go.Proofs.YtcedmiojmepioaaGreatDoor
namespace Go.Proofs.YtcedmiojmepioaaGreatDoor
open Go.RowKit
set_option linter.unusedVariables false
set_option linter.unusedSimpArgs false

theorem infoD : (Tryz.prog.info? 25).map (fun i => (i.zero, i.size, i.bytes)) = some (some (.agg (bv (List.replicate 32 0)).toArray), 32, 32) := by kernel_rfl
theorem run_copy_rowN {P : Program} (w : World) (dT sT ty elem : TypeId) (g o dLen dCap : Nat) (a : Addr) (sLen sCap size m : Nat) (cur : Array Value) (t : TypeId) (cs : List Value)
    (hu : P.underlying dT = some (.slice elem)) (hs : (P.info? elem).map (·.size) = some size)
    (hg : w.heap[g]? = some (.cells cur t (0, 0))) (hm : Nat.min sLen dLen = m) (hn : cs.length = m * size)
    (hsrc : ∀ j v, cs[j]? = some v → w.cell? (a.add j) = some v) (hfit : o + cs.length ≤ cur.size) (h1 : ∀ v ∈ cs, v.oneCell' = true) :
    (Builtin.copy_ #[dT, sT] ty #[.slice (some ⟨g, o, none⟩) dLen dCap, .slice (some a) sLen sCap]).run P w =
      .ok (goInt m) (w.setRow g (cur.toList.take o ++ cs ++ cur.toList.drop (o + cs.length)).toArray) := by
  have hl := run_loadCells_list (P := P) w a cs hsrc
  have hst := run_storeCells_at P g o t cs 0 cur w hg (by simpa using hfit) h1
  have hm' : min sLen dLen = m := hm
  cases hq : P.info? elem with
  | none => simp [hq] at hs
  | some i =>
    have hi : i.size = size := by simpa [hq] using hs
    rw [hn] at hl
    simp [Builtin.copy_, run_underlying hu, Builtin.lenOf, Builtin.firstCells, sizeOf, typeInfo, hq, hi, hm', hl, hst]
theorem bel_row {B g : Nat} {w0 w : World} (hb : Below B w0 w) (hBg : B ≤ g) (cs : Array Value) : Below B w0 (w.setRow g cs) :=
  hb.trans ⟨rfl, rfl, rfl, by simp [World.setRow], fun k hk => setRow_other w g k cs (by omega)⟩
theorem take_splice {cur xs news : List Value} {o N : Nat} (ht : cur.take N = xs) (ho : o + news.length ≤ N) (hN : N ≤ cur.length) :
    (cur.take o ++ news ++ cur.drop (o + news.length)).take N = xs.take o ++ news ++ xs.drop (o + news.length) := by
  subst ht
  rw [List.take_take, Nat.min_eq_left (by omega), List.append_assoc, List.take_append, List.take_append]
  have h1 : (cur.take o).length = o := by rw [List.length_take]; omega
  rw [h1, List.take_take, Nat.min_eq_right (by omega), List.take_of_length_le (l := news) (by omega), List.drop_take, List.append_assoc, Nat.sub_sub]
/-- copy of digests into a row of one's own -/
theorem list_copyR {ops : Array Oper} {rest : List Oper} {o : Oper} {a : Act} {w : World} {Q : Exit → Act → World → Prop} (hgd : o.guard = none) (d s : Operand)
    (ho : o.op = .call { callee := .builtin .copy, args := #[d, s], argTypes := #[36, 36] })
    (B g N cap i dl dc : Nat) (fs : List Int) (hown : OwnR w B (.slice (some ⟨g, 0, none⟩) N cap) N fs) (hd : a.eval d = .slice (some ⟨g, i * 32, none⟩) dl dc)
    (b off sl sc m : Nat) (zs : List Int) (hs : a.eval s = .slice (some ⟨b, off, none⟩) sl sc) (hm : Nat.min sl dl = m) (hl : zs.length = m * 32) (hz : BytesAt w b off zs) (hfit : i + m ≤ N) (w0 : World) (hB : Below B w0 w)
    (h : ∀ w', OwnR w' B (.slice (some ⟨g, 0, none⟩) N cap) N (fs.take (i * 32) ++ zs ++ fs.drop (i * 32 + zs.length)) → Below B w0 w' → (∀ k, k ≠ g → w'.heap[k]? = w.heap[k]?) → wpList Tryz.prog ops Q rest (a.put o.dst (goInt m)) w') : wpList Tryz.prog ops Q (o :: rest) a w := by
  have hown2 := hown
  obtain ⟨h1, h2⟩ := hown2
  rcases h2 with ⟨e, h0⟩ | ⟨g0, cap0, cur, e, hbg, hg, hn, hcm, hsz, htk⟩
  · cases e
  · obtain ⟨rfl, rfl⟩ : g0 = g ∧ cap0 = cap := by injection e with e1 e2 e3; injection e1 with e1; injection e1 with e1; exact ⟨e1.symm, e3.symm⟩
    have hNc : N * 32 ≤ cap0 * 32 := Nat.mul_le_mul_right _ hn
    have hf : i * 32 + (bv zs).length ≤ N * 32 := by rw [bv_len, hl, ← Nat.add_mul]; exact Nat.mul_le_mul_right _ hfit
    have hrun := run_copy_rowN (P := Tryz.prog) w 36 36 o.type 25 g0 (i * 32) dl dc ⟨b, off, none⟩ sl sc 32 m cur 25 (bv zs) Tryz.underlying36 (by kernel_rfl) hg hm (by rw [bv_len]; exact hl)
      (fun j u hj => by
        have hj' : j < zs.length := by have := (List.getElem?_eq_some_iff.1 hj).1; rwa [bv_len] at this
        rw [Addr.add_mid, hz j hj']
        have h2 := bv_get zs j hj'
        rw [List.getElem?_toArray, hj] at h2
        exact h2.symm) (by omega) (bv_one zs)
    refine wpList_plain hgd fun K hK => ?_
    unfold Oper.wp
    simp only [execOp, ho, resolve, invoke, builtin, Sem.run_bind, Sem.run_pure, Result.andThen_ok, List.map_toArray, List.map_cons, List.map_nil, hd, hs, hrun]
    refine hK _ _ (h _ ⟨?_, .inr ⟨g0, cap0, _, rfl, hbg, setRow_heap w g0 cur _ _ _ hg, hn, hcm, ?_, ?_⟩⟩ (bel_row hB hbg _) (fun k hk => setRow_other w g0 k _ hk))
    · rw [bv_len] at h1 hf ⊢
      simp only [List.length_append, List.length_take, List.length_drop]
      omega
    · simp only [List.size_toArray, List.length_append, List.length_take, List.length_drop, Array.length_toList]
      omega
    · have ht := take_splice (cur := cur.toList) (news := bv zs) (o := i * 32) htk hf (by rw [Array.length_toList]; omega)
      show _ = bv _
      rw [ht, bv_len]
      simp only [bv, List.map_append, List.map_take, List.map_drop]
/-- zeros behind a row that is full -/
theorem list_appZ {ops : Array Oper} {rest : List Oper} {o : Oper} {a : Act} {w : World} {Q : Exit → Act → World → Prop} (hgd : o.guard = none) (s x : Operand)
    (ho : o.op = .call { callee := .builtin .append, args := #[s, x], argTypes := #[36, 3] }) (b off i cap k N : Nat) (kz : Int) (zs : List Int) (hs : a.eval s = .slice (some ⟨b, off, none⟩) i cap) (hx0 : a.eval x = .int .i64 kz) (hkz : kz = (k : Int)) (hN : i + k = N) (hk : 0 < k) (hfull : cap < i + k) (hb : i + k ≤ 1000000)
    (hl : zs.length = i * 32) (hz : BytesAt w b off zs)
    (h : ∀ g c w', OwnR w' w.heap.size (.slice (some ⟨g, 0, none⟩) N c) N (zs ++ List.replicate (k * 32) 0) → w.heap.size ≤ g → N ≤ c → c ≤ maxLen → Below w.heap.size w w' → wpList Tryz.prog ops Q rest (a.put o.dst (.slice (some ⟨g, 0, none⟩) N c)) w') : wpList Tryz.prog ops Q (o :: rest) a w := by
  subst hN
  have hx : a.eval x = .int .i64 (k : Int) := by rw [hx0, hkz]
  obtain ⟨i0, hi, hz0, hz1, hz2⟩ := info_parts infoD
  have hcs : (Value.agg (bv (List.replicate 32 0)).toArray).cells.size = 32 := by simp [Value.cells, bv]
  have hcell : ∀ j u, (bv zs)[j]? = some u → w.cell? ((⟨b, off, none⟩ : Addr).add j) = some u := by
    intro j u hj
    have hj' : j < zs.length := by
      have := (List.getElem?_eq_some_iff.1 hj).1
      rwa [bv_len] at this
    rw [Addr.add_mid, hz j hj']
    have h2 := bv_get zs j hj'
    rw [List.getElem?_toArray, hj] at h2
    exact h2.symm
  have hlo : (bv zs).length = i * i0.size := by rw [bv_len, hz1]; exact hl
  have hr := Go.Lib.run_append_grow_zeros (P := Tryz.prog) w 36 3 o.type 25 i0 _ .i64 .i64 Tryz.underlying36 Tryz.underlying3 hi hz0 (some ⟨b, off, none⟩) i cap (bv zs) (run_firstCells_some (P := Tryz.prog) w.drew i0.size i ⟨b, off, none⟩ i cap (bv zs) hlo hcell) k hk (by rw [hz1]; decide) hfull (by omega) (by rw [hz2]; omega) (growslice_fits hfull (by rw [hz2]; omega))
  have hge := grownCap_ge w (i + k) cap 25
  have hcm := grownCap_le_maxLen w (i + k) cap 25 (by unfold maxLen; omega)
  have hzr : ∀ m, (Builtin.zeroCells (Value.agg (bv (List.replicate 32 0)).toArray).cells m).toList = bv (List.replicate (m * 32) 0) := by
    intro m
    apply List.ext_getElem?
    intro j
    have hsz : (Builtin.zeroCells (Value.agg (bv (List.replicate 32 0)).toArray).cells m).toList.length = m * 32 := by rw [Array.length_toList, size_zeroCells, hcs]
    by_cases hj : j < m * 32
    · rw [List.getElem?_eq_getElem (by omega), List.getElem?_eq_getElem (by rw [bv_len]; simpa using hj)]
      refine congrArg some ?_
      have h32 : ∀ r, r < 32 → ((bv (List.replicate 32 0)).toArray)[r]! = Value.int .u8 0 := by
        intro r hr
        have hr2 : r < ((bv (List.replicate 32 0)).toArray).size := by simpa [bv] using hr
        rw [getElem!_pos _ r hr2]
        simp only [bv, List.getElem_toArray, List.getElem_map, List.getElem_replicate]
      have e1 : (Builtin.zeroCells (Value.agg (bv (List.replicate 32 0)).toArray).cells m).toList[j]'(by omega) = ((bv (List.replicate 32 0)).toArray)[j % ((bv (List.replicate 32 0)).toArray).size]! := by
        simp [Builtin.zeroCells, Value.cells]
      rw [e1, show ((bv (List.replicate 32 0)).toArray).size = 32 from hcs, h32 _ (Nat.mod_lt _ (by decide))]
      simp [bv]
    · rw [List.getElem?_eq_none (by omega), List.getElem?_eq_none (by rw [bv_len]; simpa using hj)]
  obtain ⟨gc, hgc⟩ : ∃ gc, grownCap w (i + k) cap 25 = gc := ⟨_, rfl⟩
  rw [hgc] at hr hge hcm
  refine wpList_plain hgd fun K hK => ?_
  unfold Oper.wp
  simp only [execOp, ho, resolve, invoke, builtin, Sem.run_bind, Sem.run_pure, Result.andThen_ok, List.map_toArray, List.map_cons, List.map_nil, hs, hx, hr]
  refine hK _ _ (h w.heap.size _ _ ⟨?_, .inr ⟨w.heap.size, _, _, rfl, Nat.le_refl _, heap_alloc_new w.drew _, hge, hcm, ?_, ?_⟩⟩ (Nat.le_refl _) hge hcm ?_)
  · rw [bv_len, List.length_append, List.length_replicate, hl, Nat.add_mul]
  · rw [Array.size_append, Array.size_append, List.size_toArray, size_zeroCells, size_zeroCells, hcs, bv_len, hl]
    omega
  · simp only [Array.toList_append, List.append_assoc, hzr]
    rw [← List.append_assoc]
    have e : bv zs ++ bv (List.replicate (k * 32) 0) = bv (zs ++ List.replicate (k * 32) 0) := by simp [bv]
    rw [e]
    have e2 : (i + k) * 32 = (bv (zs ++ List.replicate (k * 32) 0)).length := by rw [bv_len, List.length_append, List.length_replicate, hl, Nat.add_mul]
    rw [e2]
    exact List.take_left
  · exact (Below.refl _ w).drew.alloc (Nat.le_refl _) _
end Go.Proofs.YtcedmiojmepioaaGreatDoor
namespace Go.Proofs.YtcedmiojmepioaaGreatDoor
open Go.RowKit
set_option linter.unusedVariables false
set_option linter.unusedSimpArgs false

theorem clipD_any (p : Option Addr) (n c : Nat) (w : World) (h1 : n ≤ c) (h2 : c ≤ 9223372036854775807) (h3 : p = none → n = 0 ∧ c = 0) :
    Calls Tryz.prog 51 #[.slice p n c] w fun e w' => e = .returned (.slice p n n) ∧ w' = w := by
  cases p with
  | none =>
    obtain ⟨rfl, rfl⟩ := h3 rfl
    clear h1 h2 h3
    go_enter Tryz.func51, Tryz.ntmps51
    go_wp2_with fail
    go_ret
    exact ⟨rfl, rfl⟩
  | some a =>
    clear h3
    go_enter Tryz.func51, Tryz.ntmps51
    go_wp2_with fail
    go_ret
    exact ⟨rfl, rfl⟩
theorem cells_of {w : World} {b off : Nat} {zs : List Int} (h : BytesAt w b off zs) : ∀ j u, (bv zs)[j]? = some u → w.cell? ((⟨b, off, none⟩ : Addr).add j) = some u := by
  intro j u hj
  have hj' : j < zs.length := by
    have := (List.getElem?_eq_some_iff.1 hj).1
    rwa [bv_len] at this
  rw [Addr.add_mid, h j hj']
  have h2 := bv_get zs j hj'
  rw [List.getElem?_toArray, hj] at h2
  exact h2.symm
/-- append of one digest to a slice that is full -/
theorem list_app1 {ops : Array Oper} {rest : List Oper} {o : Oper} {a : Act} {w : World} {Q : Exit → Act → World → Prop} (hgd : o.guard = none) (s x : Operand)
    (ho : o.op = .call { callee := .builtin .append, args := #[s, x], argTypes := #[36, 36] }) (p : Option Addr) (n : Nat) (fs : List Int) (hs : a.eval s = .slice p n n) (hn : p = none → n = 0) (hfl : fs.length = n * 32) (hp : ∀ q, p = some q → n = 0 ∨ ∃ b off, q = ⟨b, off, none⟩ ∧ BytesAt w b off fs)
    (db : Nat) (d : List Int) (hx : a.eval x = .slice (some ⟨db, 0, none⟩) 1 1) (hd : Dg w db d) (hb : n ≤ 1000000)
    (h : ∀ v' w', OwnR w' w.heap.size v' (n + 1) (fs ++ d) → Below w.heap.size w w' → wpList Tryz.prog ops Q rest (a.put o.dst v') w') : wpList Tryz.prog ops Q (o :: rest) a w := by
  obtain ⟨i0, hi, hz0, hz1, hz2⟩ := info_parts infoD
  refine wpList_append_grows w hgd s x 36 ho 25 i0 _ 32 32 Tryz.underlying36 hi hz0 hz1 hz2 (by simp [Value.cells, bv]) (by decide) p n n (bv fs) hs (fun e => ⟨hn e, hn e⟩) (by rw [bv_len]; exact hfl) ?_
    ⟨db, 0, none⟩ 1 1 (bv d) hx (by rw [bv_len, hd.2]) (cells_of hd.bytes) (bv_one d) (by omega) (by unfold maxLen; omega) (by omega) ?_
  · intro b hb j u hj
    rcases hp b hb with h0 | ⟨b, off, rfl, hc⟩
    · subst h0
      obtain rfl : fs = [] := List.eq_nil_of_length_eq_zero (by omega)
      simp [bv] at hj
    · exact cells_of hc j u hj
  · intro v' w' h1 h2
    exact h v' w' (by unfold OwnR; rw [bv, List.map_append]; exact h1) ⟨h2.os, h2.tape, h2.output, h2.size, fun k hk => h2.block k hk (by simp)⟩
set_option maxRecDepth 100000 in
set_option maxHeartbeats 2000000 in
theorem ins_nil (l : List (List Int)) (d : List Int) (db : Nat) (w : World) (h0 : l = []) (hd : Hid (Dg w db d)) :
    Calls Tryz.prog 50 #[.slice none 0 0, .int .i64 0, .slice (some ⟨db, 0, none⟩) 1 1] w fun e w' => ∃ v', e = .returned v' ∧ OwnR w' w.heap.size v' 1 d ∧ Below w.heap.size w w' := by
  go_enter Tryz.func50, Tryz.ntmps50
  go_wp2_with (at_builtin; refine list_app1 rfl (.tmp 23) (.tmp 24) rfl none 0 [] rfl (fun _ => rfl) rfl (fun q hq => by cases hq) db d rfl hd.out (by omega) ?_; intro v1 w1 o1 b1; have O1 := Lib.hid o1; have B1 := Lib.hid b1; clear o1 b1)
  go_ret
  exact ⟨v1, rfl, O1.out, B1.out⟩
set_option maxRecDepth 100000 in
set_option maxHeartbeats 2000000 in
theorem ins_emp (ad : Addr) (d : List Int) (db : Nat) (w : World) (hd : Hid (Dg w db d)) :
    Calls Tryz.prog 50 #[.slice (some ad) 0 0, .int .i64 0, .slice (some ⟨db, 0, none⟩) 1 1] w fun e w' => ∃ v', e = .returned v' ∧ OwnR w' w.heap.size v' 1 d ∧ Below w.heap.size w w' := by
  go_enter Tryz.func50, Tryz.ntmps50
  go_wp2_with (at_builtin; refine list_app1 rfl (.tmp 23) (.tmp 24) rfl (some ad) 0 [] rfl (fun e => by cases e) rfl (fun q hq => .inl rfl) db d rfl hd.out (by omega) ?_; intro v1 w1 o1 b1; have O1 := Lib.hid o1; have B1 := Lib.hid b1; clear o1 b1)
  go_ret
  exact ⟨v1, rfl, O1.out, B1.out⟩
set_option maxRecDepth 100000 in
set_option maxHeartbeats 2000000 in
theorem ins_end (b off n : Nat) (fs d : List Int) (db : Nat) (w : World) (hn : 0 < n) (hn2 : n ≤ 100000) (hl : Hid (fs.length = n * 32)) (hb : Hid (BytesAt w b off fs)) (hd : Hid (Dg w db d)) :
    Calls Tryz.prog 50 #[.slice (some ⟨b, off, none⟩) n n, .int .i64 (n : Int), .slice (some ⟨db, 0, none⟩) 1 1] w fun e w' => ∃ v', e = .returned v' ∧ OwnR w' w.heap.size v' (n + 1) (fs ++ d) ∧ Below w.heap.size w w' := by
  have h0 : ¬ ((n : Int) < 0) := by omega
  go_enter Tryz.func50, Tryz.ntmps50
  go_wp2_with (at_builtin; refine list_app1 rfl (.tmp 23) (.tmp 24) rfl (some ⟨b, off, none⟩) n fs rfl (fun e => by cases e) hl.out (fun q hq => .inr ⟨b, off, by injection hq with e; exact e.symm, hb.out⟩) db d rfl hd.out (by omega) ?_; intro v1 w1 o1 b1; have O1 := Lib.hid o1; have B1 := Lib.hid b1; clear o1 b1)
  go_ret
  exact ⟨v1, rfl, O1.out, B1.out⟩
set_option maxRecDepth 100000 in
set_option maxHeartbeats 4000000 in
theorem ins_mid (b off n i : Nat) (xs ys d : List Int) (db : Nat) (w : World) (hi : i < n) (hn2 : n ≤ 100000) (hlt : b < w.heap.size) (hx : Hid (xs.length = i * 32)) (hy : Hid (ys.length = (n - i) * 32)) (hb : Hid (BytesAt w b off xs)) (hb2 : Hid (BytesAt w b (off + i * 32) ys)) (hd : Hid (Dg w db d)) :
    Calls Tryz.prog 50 #[.slice (some ⟨b, off, none⟩) n n, .int .i64 (i : Int), .slice (some ⟨db, 0, none⟩) 1 1] w fun e w' => ∃ v', e = .returned v' ∧ OwnR w' w.heap.size v' (n + 1) (xs ++ d ++ ys) ∧ Below w.heap.size w w' := by
  have h0 : ¬ ((i : Int) < 0) := by omega
  have h1 : (i : Int) ≤ n := by omega
  have h2 : ¬ ((i : Int) = n) := by omega
  have h3 : (n : Int) < (n : Int) + 1 := by omega
  go_enter Tryz.func50, Tryz.ntmps50
  go_upto_region 10 with (at_builtin; refine list_appZ rfl (.tmp 34) (.tmp 39) rfl b off i n (n + 1 - i) (n + 1) _ xs rfl rfl (by omega) (by omega) (by omega) (by omega) (by omega) hx.out hb.out ?_)
  intro g c w1 o1 hg hc hm b1
  have hlen : xs.length + (n + 1 - i) * 32 = (n + 1) * 32 := by rw [hx.out]; omega
  have O1 := Lib.hid o1
  have B1 := Lib.hid b1
  have D1 := Lib.hid (hd.out.bel b1)
  have Y1 := Lib.hid (hb2.out.below b1 hlt)
  have z1 := b1.size
  have dlt := hd.out.lt
  clear o1 b1
  have h4 : (n : Int) + 1 ≤ c := by omega
  have h5 : (c : Int) ≤ 9223372036854775807 := by unfold maxLen at hm; omega
  have h6 : (i : Int) ≤ (n : Int) + 1 := by omega
  go_upto_region 10 with fail
  go_upto_region 11 with (refine list_copyR rfl (.tmp 43) (.tmp 44) rfl w.heap.size g (n + 1) c i _ _ (xs ++ List.replicate ((n + 1 - i) * 32) 0) O1.out rfl db 0 1 1 1 d rfl (show min 1 (n + 1 - i) = 1 by omega) (by rw [D1.out.2]) D1.out.bytes (by omega) w B1.out ?_)
  intro w2 o2 b2 k2
  have e2 : (xs ++ List.replicate ((n + 1 - i) * 32) 0).take (i * 32) ++ d ++ (xs ++ List.replicate ((n + 1 - i) * 32) 0).drop (i * 32 + d.length) = xs ++ d ++ List.replicate ((n - i) * 32) 0 := by
    rw [← hx.out, List.take_left, D1.out.2, List.drop_append, List.drop_replicate, List.drop_of_length_le (by omega)]
    rw [show (n + 1 - i) * 32 - (xs.length + 32 - xs.length) = (n - i) * 32 by omega]
    simp
  rw [List.append_assoc] at e2
  rw [e2] at o2
  have O2 := Lib.hid o2
  have B2 := Lib.hid b2
  have Y2 := Lib.hid (show BytesAt w2 b (off + i * 32) ys from fun j hj => (World.cell?_of_block (a := ⟨b, off + i * 32 + j, none⟩) (k2 b (by omega))).trans (Y1.out j hj))
  clear o2 b2 k2 e2 O1 Y1 D1 B1
  go_upto_region 11 with fail
  refine wp_region_any (by kernel_rfl) ?_
  change wpAny _ _ _ _ _ _ _ (World.drew _)
  generalize hWD : World.drew _ = W
  have O3 := Lib.hid (show OwnR W w.heap.size (.slice (some ⟨g, 0, none⟩) (n + 1) c) (n + 1) (xs ++ d ++ List.replicate ((n - i) * 32) 0) by rw [← hWD]; exact ownR_below O2.out ((Below.refl _ w2).drew))
  have B3 := Lib.hid (show Below w.heap.size w W by rw [← hWD]; exact B2.out.drew)
  have Y3 := Lib.hid (show BytesAt W b (off + i * 32) ys by rw [← hWD]; exact Y2.out)
  have lt3 := Lib.hid (show b < W.heap.size from Nat.lt_of_lt_of_le hlt B3.out.size)
  clear hWD O2 B2 Y2
  have h7 : (i : Int) + 1 ≤ (n : Int) + 1 := by omega
  have h8 : ¬ ((i : Int) + 1 < 0) := by omega
  have h9 : (i : Int) + 1 ≤ c := by omega
  have h10 : (0 : Int) ≤ (i : Int) + 1 := by omega
  have h11 : ¬ (c = i + 1) := by omega
  have h12 : ¬ (n = i) := by omega
  have hCD : ∀ u, Ext W u → Ext W u := fun u hu => hu
  refine region_U (D := Ext W) (Ext W) [8] (Ext.refl W) ?_
  refine anyU_takeD (i := 0) (v := .slice (some ⟨g, 0, none⟩) (n + 1 : Nat) c) 46 rfl rfl (by kernel_rfl) (by kernel_rfl) (by kernel_rfl) (fun _ _ _ h => h) (by kernel_rfl) (Ext.stable _) hCD (yieldsU_val rfl (fun u hu => by go_simp)) ?_
  refine anyU_takeD (i := 1) (v := .int .i64 (i : Int)) 47 rfl rfl (by kernel_rfl) (by kernel_rfl) (by kernel_rfl) (fun _ _ _ h => h) (by kernel_rfl) (Ext.stable _) hCD (yieldsU_val rfl (fun u hu => by go_simp)) ?_
  refine anyU_takeD (i := 2) (v := .int .i64 1) 48 rfl rfl (by kernel_rfl) (by kernel_rfl) (by kernel_rfl) (fun _ _ _ h => h) (by kernel_rfl) (Ext.stable _) hCD (yieldsU_val rfl (fun u hu => by go_simp)) ?_
  refine anyU_takeD (i := 3) (v := .int .i64 ((i : Int) + 1)) 49 rfl rfl (by kernel_rfl) (by kernel_rfl) (by kernel_rfl) (fun _ _ _ h => h) (by kernel_rfl) (Ext.stable _) hCD (yieldsU_val rfl (fun u hu => by go_simp; rw [IntKind.wrap_i64]; omega)) ?_
  refine anyU_takeD (i := 4) (v := .slice (some ⟨g, (i + 1) * 32, none⟩) (n - i) (c - (i + 1))) 50 rfl rfl (by kernel_rfl) (by kernel_rfl) (by kernel_rfl) (fun _ _ _ h => h) (by kernel_rfl) (Ext.stable _) hCD (yieldsU_val rfl (fun u hu => by go_simp)) ?_
  simp only [Act.put, List.setIfInBounds_toArray, List.set_cons_succ, List.set_cons_zero]
  refine anyU_takeD (i := 5) (v := .slice (some ⟨b, off, none⟩) n n) 51 rfl rfl (by kernel_rfl) (by kernel_rfl) (by kernel_rfl) (fun _ _ _ h => h) (by kernel_rfl) (Ext.stable _) hCD (yieldsU_val rfl (fun u hu => by go_simp)) ?_
  refine anyU_takeD (i := 6) (v := .int .i64 (i : Int)) 52 rfl rfl (by kernel_rfl) (by kernel_rfl) (by kernel_rfl) (fun _ _ _ h => h) (by kernel_rfl) (Ext.stable _) hCD (yieldsU_val rfl (fun u hu => by go_simp)) ?_
  refine anyU_takeD (i := 7) (v := .slice (some ⟨b, off + i * 32, none⟩) (n - i) (n - i)) 53 rfl rfl (by kernel_rfl) (by kernel_rfl) (by kernel_rfl) (fun _ _ _ h => h) (by kernel_rfl) (Ext.stable _) hCD (yieldsU_val rfl (fun u hu => by go_simp)) ?_
  simp only [Act.put, List.setIfInBounds_toArray, List.set_cons_succ, List.set_cons_zero]
  refine anyU_tail 8 [] rfl rfl (by decide) (by kernel_rfl) ?_
  intro u3 hu3
  simp only [Act.put, List.filterMap_cons, List.filterMap_nil, List.getElem?_cons_succ, List.getElem?_cons_zero]
  have O4 := Lib.hid (ownR_below O3.out hu3)
  have B4 := Lib.hid (bel_trans B3.out hu3)
  have Y4 := Lib.hid (Y3.out.below hu3 lt3.out)
  clear hu3 O3 B3 Y3
  refine (list_copyR rfl (.tmp 50) (.tmp 53) rfl w.heap.size g (n + 1) c (i + 1) _ _ (xs ++ d ++ List.replicate ((n - i) * 32) 0) O4.out rfl b (off + i * 32) (n - i) (n - i) (n - i) ys rfl (show min (n - i) (n - i) = n - i by omega) hy.out Y4.out (by omega) w B4.out ?_)
  intro w5 o5 b5 k5
  have e5 : (xs ++ d ++ List.replicate ((n - i) * 32) 0).take ((i + 1) * 32) ++ ys ++ (xs ++ d ++ List.replicate ((n - i) * 32) 0).drop ((i + 1) * 32 + ys.length) = xs ++ d ++ ys := by
    have hxd : (i + 1) * 32 = (xs ++ d).length := by rw [List.length_append, hx.out, hd.out.2]; omega
    rw [hxd, List.take_left, List.drop_append, List.drop_replicate, List.drop_of_length_le (by omega), hy.out]
    rw [show (n - i) * 32 - ((xs ++ d).length + (n - i) * 32 - (xs ++ d).length) = 0 by omega]
    simp
  simp only [List.append_assoc] at e5 o5
  rw [e5] at o5
  have O5 := Lib.hid o5
  have B5 := Lib.hid b5
  clear o5 b5 k5 e5
  go_wp2_with fail
  go_ret
  refine ⟨.slice (some ⟨g, 0, none⟩) (n + 1 : Nat) c, rfl, ?_, B5.out⟩
  exact O5.out
end Go.Proofs.YtcedmiojmepioaaGreatDoor
namespace Go.Proofs.YtcedmiojmepioaaGreatDoor
open Go.RowKit
set_option linter.unusedVariables false
set_option linter.unusedSimpArgs false

theorem fold_fill : ∀ (xs pre c : List Value), c.length = xs.length → (xs.zipIdx pre.length).foldl (fun cs x => cs.setIfInBounds x.2 x.1) (pre ++ c).toArray = (pre ++ xs).toArray
  | [], pre, [], _ => by simp
  | [], pre, _ :: _, h => by simp at h
  | v :: r, pre, [], h => by simp at h
  | v :: r, pre, d :: c, h => by
    have ih := fold_fill r (pre ++ [v]) c (by simpa using h)
    rw [List.length_append] at ih
    simp only [List.length_singleton] at ih
    simp only [List.zipIdx_cons, List.foldl_cons]
    rw [show (pre ++ d :: c).toArray.setIfInBounds pre.length v = ((pre ++ [v]) ++ c).toArray by simp]
    rw [ih]
    simp
set_option maxRecDepth 100000 in
theorem run_build1 (xs : List Value) (hl : xs.length = 32) (w : World) : (Instr.buildSlice 36 1 #[(0, .agg xs.toArray)]).run Tryz.prog w = .ok (.slice (some ⟨w.heap.size, 0, none⟩) 1 1) (w.alloc (.cells xs.toArray 25)) := by
  have u := Tryz.underlying36
  have h := fold_fill xs [] (List.replicate 32 (.int .u8 0)) (by rw [hl]; rfl)
  unfold Instr.buildSlice
  simp [go_sem, hl]
  exact congrArg (fun c => w.alloc (.cells c 25)) h
theorem list_build1 {ops : Array Oper} {Q : Exit → Act → World → Prop} {o : Oper} {rest : List Oper} {a : Act} {w : World} (hw : Region.wanted o (yielded ops a.tmps) = true) (x : Operand) (ho : o.op = .buildSlice 36 1 #[(0, x)]) (xs : List Value) (hx : a.eval x = .agg xs.toArray) (hl : xs.length = 32)
    (h : wpList Tryz.prog ops Q rest (a.put o.dst (.slice (some ⟨w.heap.size, 0, none⟩) 1 1)) (w.alloc (.cells xs.toArray 25))) : wpList Tryz.prog ops Q (o :: rest) a w := by
  refine wpList_step fun K hK => ?_
  rw [if_pos hw]
  have e : (execOp a.eval o).run Tryz.prog w = .ok (.value (.slice (some ⟨w.heap.size, 0, none⟩) 1 1)) (w.alloc (.cells xs.toArray 25)) := by
    unfold execOp
    simp only [ho, List.map_toArray, List.map_cons, List.map_nil, hx, Sem.run_bind]
    rw [run_build1 xs hl w]
    rfl
  unfold Oper.wp
  rw [e]
  exact hK _ _ h
end Go.Proofs.YtcedmiojmepioaaGreatDoor
namespace Go.Proofs.YtcedmiojmepioaaGreatDoor
open Go.RowKit
set_option linter.unusedVariables false
set_option linter.unusedSimpArgs false

theorem srcL_clip {w : World} {p : Option Addr} {n c : Nat} {l : List (List Int)} (h : SrcL w p n c l) : SrcL w p n n l := by
  obtain ⟨h1, h2, h3, h4⟩ := h
  exact ⟨h1, Nat.le_refl _, by omega, h4.imp (fun h => ⟨h.1, fun _ => h.1⟩) id⟩
theorem ins_any (l : List (List Int)) (d : List Int) (i n : Nat) (p : Option Addr) (db : Nat) (w : World) (hd : Hid (Dgs l)) (hz : Hid (SrcL w p n n l)) (hn : n ≤ 4000) (ld : Hid (d.length = 32)) (hp : Hid (IsPos l d i)) (hx : Hid (Dg w db d)) :
    Calls Tryz.prog 50 #[.slice p n n, .int .i64 i, .slice (some ⟨db, 0, none⟩) 1 1] w fun e w' => ∃ v', e = .returned v' ∧ OwnR w' w.heap.size v' (n + 1) (putD l d i).flatten ∧ Below w.heap.size w w' := by
  have hnl := hz.out.1
  have hi := hp.out.1
  have e1 : (putD l d i).flatten = (l.take i).flatten ++ (d ++ (l.drop i).flatten) := by simp [putD]
  rcases Nat.eq_zero_or_pos n with h0 | h0
  · obtain rfl : l = [] := List.eq_nil_of_length_eq_zero (by omega)
    obtain rfl : i = 0 := by simpa using hi
    subst h0
    have e2 : (putD [] d 0).flatten = d := by simp [putD]
    rw [e2]
    cases p with
    | none => exact ins_nil [] d db w rfl hx
    | some a => exact ins_emp a d db w hx
  · obtain ⟨b, off, rfl, hlt, hb⟩ := hz.out.pos h0
    rcases Nat.lt_or_ge i n with h1 | h1
    · have hx1 : (l.take i).flatten.length = i * 32 := by rw [flat_len (hd.out.take i), List.length_take]; omega
      have hy1 : (l.drop i).flatten.length = (n - i) * 32 := by rw [flat_len (hd.out.drop i), List.length_drop]; omega
      have := ins_mid b off n i (l.take i).flatten (l.drop i).flatten d db w h1 (by omega) hlt (Lib.hid hx1) (Lib.hid hy1) (Lib.hid (BytesAt.take' hd.out hb i)) (Lib.hid (BytesAt.drop' hd.out hb hi)) hx
      rw [e1, ← List.append_assoc]
      exact this
    · obtain rfl : i = n := by omega
      have hl1 : l.flatten.length = i * 32 := by rw [flat_len hd.out]; omega
      have := ins_end b off i l.flatten d db w h0 (by omega) (Lib.hid hl1) (Lib.hid hb) hx
      rw [e1, List.take_of_length_le (by omega), List.drop_of_length_le (by omega)]
      simpa using this
end Go.Proofs.YtcedmiojmepioaaGreatDoor
namespace Go.Proofs.YtcedmiojmepioaaGreatDoor
open Go.RowKit
set_option linter.unusedVariables false
set_option linter.unusedSimpArgs false

theorem adj_tail {a : List Int} {l : List (List Int)} (h : adjOK (a :: l)) : adjOK l := fun j hj => h (j + 1) (by simpa using hj)
theorem adj_first {a d : List Int} {l : List (List Int)} (h : adjOK (a :: l)) (hd : d ∈ l) : ltD a d = true := by
  obtain ⟨i, hi, e⟩ := List.getElem_of_mem hd
  have := adj_lt' h (i := 0) (j := i + 1) (by omega) (by simpa using hi)
  simpa [List.getD, hi, e] using this
theorem sorted_ext : ∀ (l r : List (List Int)), adjOK l → adjOK r → (∀ d, d ∈ l ↔ d ∈ r) → l = r
  | [], [], _, _, _ => rfl
  | [], b :: r, _, _, h => by have := (h b).2 List.mem_cons_self; cases this
  | a :: l, [], _, _, h => by have := (h a).1 List.mem_cons_self; cases this
  | a :: l, b :: r, hl, hr, h => by
    have hab : a = b := by
      rcases List.mem_cons.1 ((h a).1 List.mem_cons_self) with e | e
      · exact e
      rcases List.mem_cons.1 ((h b).2 List.mem_cons_self) with f | f
      · exact f.symm
      have h1 := adj_first hr e
      have h2 := adj_first hl f
      rw [ltD_asymm h1] at h2; cases h2
    subst hab
    congr 1
    refine sorted_ext l r (adj_tail hl) (adj_tail hr) fun d => ⟨fun hd => ?_, fun hd => ?_⟩
    · rcases List.mem_cons.1 ((h d).1 (List.mem_cons_of_mem _ hd)) with e | e
      · have := adj_first hl hd
        rw [e, ltD_irrefl] at this; cases this
      · exact e
    · rcases List.mem_cons.1 ((h d).2 (List.mem_cons_of_mem _ hd)) with e | e
      · have := adj_first hr hd
        rw [e, ltD_irrefl] at this; cases this
      · exact e
theorem put_mem {l : List (List Int)} {d e : List Int} (i : Nat) : e ∈ putD l d i ↔ e = d ∨ e ∈ l := by
  unfold putD
  rw [List.mem_append, List.mem_cons]
  constructor
  · rintro (h | h | h)
    · exact .inr (List.mem_of_mem_take h)
    · exact .inl h
    · exact .inr (List.mem_of_mem_drop h)
  · rintro (h | h)
    · exact .inr (.inl h)
    · rw [← List.take_append_drop i l, List.mem_append] at h
      rcases h with h | h
      · exact .inl h
      · exact .inr (.inr h)
theorem put_get {l : List (List Int)} {d : List Int} {i : Nat} (hi : i ≤ l.length) (j : Nat) : (putD l d i).getD j [] = if j < i then l.getD j [] else if j = i then d else l.getD (j - 1) [] := by
  unfold putD
  have ht : (l.take i).length = i := by rw [List.length_take]; omega
  split
  · rename_i h
    rw [List.getD_eq_getElem?_getD, List.getElem?_append_left (by omega), List.getElem?_take, if_pos h, ← List.getD_eq_getElem?_getD]
  · rename_i h
    rw [List.getD_eq_getElem?_getD, List.getElem?_append_right (by omega), ht]
    split
    · rename_i h2; subst h2; simp
    · rename_i h2
      obtain ⟨k, hk⟩ : ∃ k, j - i = k + 1 := ⟨j - i - 1, by omega⟩
      rw [hk, List.getElem?_cons_succ, List.getElem?_drop, List.getD_eq_getElem?_getD]
      congr 2; omega
theorem put_adj {l : List (List Int)} {d : List Int} {i : Nat} (ha : adjOK l) (hp : IsPos l d i) (hn : hasD l d = false) : adjOK (putD l d i) := by
  intro j hj
  rw [putD_len l d i hp.1] at hj
  rw [put_get hp.1, put_get hp.1]
  rcases Nat.lt_trichotomy (j + 1) i with h | h | h
  · rw [if_pos (by omega), if_pos h]; exact ha j (by have := hp.1; omega)
  · rw [if_pos (by omega), if_neg (by omega), if_pos h]
    exact hp.2.1 j (by omega)
  · by_cases e : j = i
    · rw [if_neg (by omega), if_pos e, if_neg (by omega), if_neg (by omega)]
      have h1 := hp.2.2 (j + 1 - 1) (by omega) (by omega)
      refine ltD_tri h1 fun he => ?_
      have : hasD l d = true := by
        unfold hasD
        rw [List.contains_iff_mem, ← he, List.getD_eq_getElem?_getD, List.getElem?_eq_getElem (by omega)]
        exact List.getElem_mem _
      rw [hn] at this; cases this
    · rw [if_neg (by omega), if_neg e, if_neg (by omega), if_neg (by omega)]
      have := ha (j - 1) (by omega)
      rwa [show j - 1 + 1 = j by omega] at this
theorem has_iff {l : List (List Int)} {d : List Int} : hasD l d = true ↔ d ∈ l := by unfold hasD; rw [List.contains_iff_mem]
end Go.Proofs.YtcedmiojmepioaaGreatDoor
namespace Go.Proofs.YtcedmiojmepioaaGreatDoor
open Go.RowKit
set_option linter.unusedVariables false
set_option linter.unusedSimpArgs false

theorem list32 (zs : List Int) (h : zs.length = 32) : ∃ z0 z1 z2 z3 z4 z5 z6 z7 z8 z9 z10 z11 z12 z13 z14 z15 z16 z17 z18 z19 z20 z21 z22 z23 z24 z25 z26 z27 z28 z29 z30 z31 : Int, zs = [z0, z1, z2, z3, z4, z5, z6, z7, z8, z9, z10, z11, z12, z13, z14, z15, z16, z17, z18, z19, z20, z21, z22, z23, z24, z25, z26, z27, z28, z29, z30, z31] := by
  match zs, h with
  | [z0, z1, z2, z3, z4, z5, z6, z7, z8, z9, z10, z11, z12, z13, z14, z15, z16, z17, z18, z19, z20, z21, z22, z23, z24, z25, z26, z27, z28, z29, z30, z31], _ => exact ⟨z0, z1, z2, z3, z4, z5, z6, z7, z8, z9, z10, z11, z12, z13, z14, z15, z16, z17, z18, z19, z20, z21, z22, z23, z24, z25, z26, z27, z28, z29, z30, z31, rfl⟩
def SrcD (w : World) (p : Option Addr) (n cap : Nat) (fs : List Int) : Prop :=
  fs.length = 32 * n ∧ n ≤ cap ∧ cap ≤ maxLen ∧ ((n = 0 ∧ (p = none → cap = 0)) ∨ ∃ b off, p = some ⟨b, off, none⟩ ∧ b < w.heap.size ∧ BytesAt w b off fs)
theorem SrcD.below {w w' : World} {p : Option Addr} {n cap : Nat} {fs : List Int} (h : SrcD w p n cap fs) (k : Below w.heap.size w w') : SrcD w' p n cap fs := by
  obtain ⟨h1, h2, h3, h4 | ⟨b, off, rfl, hb, hc⟩⟩ := h
  · exact ⟨h1, h2, h3, .inl h4⟩
  · exact ⟨h1, h2, h3, .inr ⟨b, off, rfl, Nat.lt_of_lt_of_le hb k.size, hc.below k hb⟩⟩

theorem srcD_at {w : World} {p : Option Addr} {n cap : Nat} {fs : List Int} (h : SrcD w p n cap fs) {k : Nat} (hk : k < n) : ∃ b off, p = some ⟨b, off, none⟩ ∧ b < w.heap.size ∧ BytesAt w b (off + k * 32) ((fs.drop (32 * k)).take 32) := by
  obtain ⟨h1, h2, h3, h4 | ⟨b, off, rfl, hb, hc⟩⟩ := h
  · omega
  · exact ⟨b, off, rfl, hb, by rw [Nat.mul_comm k 32]; exact (hc.drop (32 * k)).take 32⟩
set_option maxRecDepth 100000 in
set_option maxHeartbeats 4000000 in
theorem rsame_any (p q : Option Addr) (n cap cap2 : Nat) (fs : List Int) (w : World) (hp : Hid (SrcD w p n cap fs)) (hq : Hid (SrcD w q n cap2 fs)) (hn : n ≤ 4611686018427387904) :
    Calls Tryz.prog 17 #[.slice p n cap, .slice q n cap2] w fun e w' => e = .returned (.bool true) ∧ Below w.heap.size w w' := by
  go_enter Tryz.func17, Tryz.ntmps17
  go_wp2_with fail
  go_loopw [5] (fun i wr => ∃ k : Nat, k ≤ n ∧ i = .int .i64 k ∧ Hid (Ext w wr)) (fun i _ => n - (intOf i).toNat)
  case atStart => exact ⟨0, by omega, rfl, Lib.hid (Ext.refl w)⟩
  case round =>
    obtain ⟨k, hk, rfl, RE⟩ := hrel
    by_cases hlt : k < n
    · obtain ⟨b1, o1, hp1, hb1, hc1⟩ := srcD_at (hp.out.below RE.out) hlt
      obtain ⟨b2, o2, hq1, hb2, hc2⟩ := srcD_at (hq.out.below RE.out) hlt
      obtain ⟨el, hel⟩ : ∃ el, (fs.drop (32 * k)).take 32 = el := ⟨_, rfl⟩
      have hl : el.length = 32 := by rw [← hel, List.length_take, List.length_drop]; have := hp.out.1; omega
      rw [hel] at hc1 hc2
      clear hel
      subst hp1 hq1
      have H1 := Lib.hid hc1
      have H2 := Lib.hid hc2
      have HL := Lib.hid hl
      have EQ := eqDig_same el hl
      clear hc1 hc2 hl
      go_upto_region 6 with fail
      refine wp_region_any (by kernel_rfl) ?_
      change wpAny _ _ _ _ _ _ _ (World.drew _)
      generalize hWD : wr.drew = W0
      have E0 := Lib.hid (show Ext w W0 by rw [← hWD]; exact Below.drew RE.out)
      have P0 := Lib.hid (show BytesAt W0 b1 (o1 + k * 32) el by rw [← hWD]; exact H1.out)
      have Q0 := Lib.hid (show BytesAt W0 b2 (o2 + k * 32) el by rw [← hWD]; exact H2.out)
      have l1 : b1 < W0.heap.size := by rw [← hWD]; exact hb1
      have l2 : b2 < W0.heap.size := by rw [← hWD]; exact hb2
      clear hWD
      refine region_E [8] ?_
      refine anyU_takeD (i := 0) (v := .slice (some ⟨b1, o1, none⟩) n cap) 17 rfl rfl (by kernel_rfl) (by kernel_rfl) (by kernel_rfl) (fun _ _ _ h => h) (by kernel_rfl) (Ext.stable _) (fun _ h => h) (yieldsU_val rfl (fun u hu => by rfl)) ?_
      refine anyU_takeD (i := 1) (v := .int .i64 k) 18 rfl rfl (by kernel_rfl) (by kernel_rfl) (by kernel_rfl) (fun _ _ _ h => h) (by kernel_rfl) (Ext.stable _) (fun _ h => h) (yieldsU_val rfl (fun u hu => by rfl)) ?_
      refine anyU_takeD (i := 2) (v := .pointer (some ⟨b1, o1 + k * 32, none⟩)) 19 rfl rfl (by kernel_rfl) (by kernel_rfl) (by kernel_rfl) (fun _ _ _ h => h) (by kernel_rfl) (Ext.stable _) (fun _ h => h) (yieldsU_val rfl (fun u hu => by go_simp)) ?_
      refine anyU_takeD (i := 3) (v := .agg (bv el).toArray) 20 rfl rfl (by kernel_rfl) (by kernel_rfl) (by kernel_rfl) (fun _ _ _ h => h) (by kernel_rfl) (Ext.stable _) (fun _ h => h) (yieldsU_of_C (yields_loadM rfl _ rfl b1 (o1 + k * 32) rfl el HL.out (fun u hu => P0.out.below hu l1))) ?_
      refine anyU_takeD (i := 4) (v := .slice (some ⟨b2, o2, none⟩) n cap2) 21 rfl rfl (by kernel_rfl) (by kernel_rfl) (by kernel_rfl) (fun _ _ _ h => h) (by kernel_rfl) (Ext.stable _) (fun _ h => h) (yieldsU_val rfl (fun u hu => by rfl)) ?_
      refine anyU_takeD (i := 5) (v := .int .i64 k) 22 rfl rfl (by kernel_rfl) (by kernel_rfl) (by kernel_rfl) (fun _ _ _ h => h) (by kernel_rfl) (Ext.stable _) (fun _ h => h) (yieldsU_val rfl (fun u hu => by rfl)) ?_
      refine anyU_takeD (i := 6) (v := .pointer (some ⟨b2, o2 + k * 32, none⟩)) 23 rfl rfl (by kernel_rfl) (by kernel_rfl) (by kernel_rfl) (fun _ _ _ h => h) (by kernel_rfl) (Ext.stable _) (fun _ h => h) (yieldsU_val rfl (fun u hu => by go_simp)) ?_
      refine anyU_takeD (i := 7) (v := .agg (bv el).toArray) 24 rfl rfl (by kernel_rfl) (by kernel_rfl) (by kernel_rfl) (fun _ _ _ h => h) (by kernel_rfl) (Ext.stable _) (fun _ h => h) (yieldsU_of_C (yields_loadM rfl _ rfl b2 (o2 + k * 32) rfl el HL.out (fun u hu => Q0.out.below hu l2))) ?_
      refine anyU_tail 8 [] rfl rfl (by decide) (by kernel_rfl) ?_
      intro w1 h1
      simp only [Act.put, List.filterMap_cons, List.filterMap_nil, List.getElem?_cons_succ, List.getElem?_cons_zero]
      have E1 := Lib.hid (Ext.trans E0.out h1)
      clear h1 E0 P0 Q0
      go_wp2_with fail
      go_roundw
      case rel => exact ⟨k + 1, by omega, by go_num, E1⟩
      case measure => simp [intOf]; omega
    · go_wp2_with fail
      go_ret
      exact ⟨rfl, RE.out⟩
theorem SrcL.flat {w : World} {p : Option Addr} {n c : Nat} {l : List (List Int)} (h : SrcL w p n c l) (hd : Dgs l) : SrcD w p n c l.flatten := ⟨by rw [flat_len hd, h.1], h.2.1, h.2.2.1, h.2.2.2⟩
set_option maxRecDepth 100000 in
theorem run_build2 (xs ys : List Int) (hx : xs.length = 32) (hy : ys.length = 32) (w : World) : (Instr.buildSlice 36 2 #[(0, .agg (bv xs).toArray), (1, .agg (bv ys).toArray)]).run Tryz.prog w = .ok (.slice (some ⟨w.heap.size, 0, none⟩) 2 2) (w.alloc (.cells (bv (xs ++ ys)).toArray 25)) := by
  obtain ⟨z0, z1, z2, z3, z4, z5, z6, z7, z8, z9, z10, z11, z12, z13, z14, z15, z16, z17, z18, z19, z20, z21, z22, z23, z24, z25, z26, z27, z28, z29, z30, z31, rfl⟩ := list32 xs hx
  obtain ⟨y0, y1, y2, y3, y4, y5, y6, y7, y8, y9, y10, y11, y12, y13, y14, y15, y16, y17, y18, y19, y20, y21, y22, y23, y24, y25, y26, y27, y28, y29, y30, y31, rfl⟩ := list32 ys hy
  kernel_rfl
theorem list_build2 {ops : Array Oper} {Q : Exit → Act → World → Prop} {o : Oper} {rest : List Oper} {a : Act} {w : World} (hw : Region.wanted o (yielded ops a.tmps) = true) (x y : Operand) (ho : o.op = .buildSlice 36 2 #[(0, x), (1, y)]) (xs ys : List Int) (hx : a.eval x = .agg (bv xs).toArray) (hy : a.eval y = .agg (bv ys).toArray) (hl : xs.length = 32) (hl2 : ys.length = 32)
    (h : wpList Tryz.prog ops Q rest (a.put o.dst (.slice (some ⟨w.heap.size, 0, none⟩) 2 2)) (w.alloc (.cells (bv (xs ++ ys)).toArray 25))) : wpList Tryz.prog ops Q (o :: rest) a w := by
  refine wpList_step fun K hK => ?_
  rw [if_pos hw]
  have e : (execOp a.eval o).run Tryz.prog w = .ok (.value (.slice (some ⟨w.heap.size, 0, none⟩) 2 2)) (w.alloc (.cells (bv (xs ++ ys)).toArray 25)) := by
    unfold execOp
    simp only [ho, List.map_toArray, List.map_cons, List.map_nil, hx, hy, Sem.run_bind]
    rw [run_build2 xs ys hl hl2 w]
    rfl
  unfold Oper.wp
  rw [e]
  exact hK _ _ h
theorem two_src {w : World} {b : Nat} {xs ys : List Int} {t : TypeId} (h : Blk w b (bv (xs ++ ys)).toArray t) (hx : xs.length = 32) (hy : ys.length = 32) : SrcL w (some ⟨b, 0, none⟩) 2 2 [xs, ys] :=
  ⟨rfl, Nat.le_refl _, by decide, .inr ⟨b, 0, rfl, h.lt, by have := bytes_run h; simpa using this⟩⟩
end Go.Proofs.YtcedmiojmepioaaGreatDoor
