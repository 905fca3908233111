/- Package onetime: a return address in memory. Package onetime: the text of integers, the tag of a return address. Package onetime: Make. -/
import Derived.Test.YtpjobllfiimdkaaGreatDoorLstZ
import Derived.Test.YtpjobllfiimdkaaGreatDoorSigCh
import Derived.Test.YtpjobllfiimdkaaGreatDoorElgZC
namespace Go.Proofs.YtpjobllfiimdkaaGreatDoor
open Go.RowKit
set_option linter.unusedVariables false
set_option linter.unusedSimpArgs false

/-- the cells of a return address -/
def rtv (l k a b : Int) (zs : List Int) : List Value := .int .i64 l :: .int .i64 k :: .int .i64 a :: .int .i64 b :: bv zs
theorem rtv_len (l k a b : Int) {zs : List Int} (h : zs.length = 32) : (rtv l k a b zs).length = 36 := by simp [rtv, bv, h]
theorem rtv_one (l k a b : Int) (zs : List Int) : ∀ v ∈ rtv l k a b zs, v.oneCell' = true := by
  intro v hv; simp only [rtv, List.mem_cons] at hv
  rcases hv with rfl | rfl | rfl | rfl | h
  · rfl
  · rfl
  · rfl
  · rfl
  · exact bv_one zs v h
set_option maxRecDepth 100000 in
theorem built_r4 {zs : List Int} (h : zs.length = 32) (l k a b : Int) : Tryz.prog.built 29 [(0, .int .i64 l), (1, .int .i64 k), (2, .agg #[.int .i64 a, .int .i64 b]), (3, .agg (bv zs).toArray)] = some (rtv l k a b zs).toArray := by
  obtain ⟨z0, z1, z2, z3, z4, z5, z6, z7, z8, z9, z10, z11, z12, z13, z14, z15, z16, z17, z18, z19, z20, z21, z22, z23, z24, z25, z26, z27, z28, z29, z30, z31, rfl⟩ := list32 zs h
  kernel_rfl
set_option maxRecDepth 100000 in
theorem built_r3 (l k a b : Int) : Tryz.prog.built 29 [(0, .int .i64 l), (1, .int .i64 k), (2, .agg #[.int .i64 a, .int .i64 b])] = some (rtv l k a b (List.replicate 32 0)).toArray := by kernel_rfl
theorem built_r0 : Tryz.prog.built 29 [] = some (rtv 0 0 0 0 (List.replicate 32 0)).toArray := by kernel_rfl
theorem list_val {ops : Array Oper} {Q : Exit → Act → World → Prop} {o : Oper} {rest : List Oper} {a : Act} {w : World} (hw : Region.wanted o (yielded ops a.tmps) = true) (v : Value) (he : (execOp a.eval o).run Tryz.prog w = .ok (.value v) w)
    (h : wpList Tryz.prog ops Q rest (a.put o.dst v) w) : wpList Tryz.prog ops Q (o :: rest) a w := by
  refine wpList_step fun K hK => ?_
  rw [if_pos hw]
  unfold Oper.wp
  simp only [he]
  exact hK _ _ h
theorem list_build {ops : Array Oper} {Q : Exit → Act → World → Prop} {o : Oper} {rest : List Oper} {a : Act} {w : World} (hw : Region.wanted o (yielded ops a.tmps) = true) (t : TypeId) (parts : Array (Nat × Operand)) (ho : o.op = .build t parts)
    (pv : List (Nat × Value)) (hp0 : (parts.toList.map fun (i, x) => (i, a.eval x)) = pv) (cs : Array Value) (hb : Tryz.prog.built t pv = some cs)
    (h : wpList Tryz.prog ops Q rest (a.put o.dst (.agg cs)) w) : wpList Tryz.prog ops Q (o :: rest) a w := by
  have hp : (parts.map fun (i, x) => (i, a.eval x)).toList = pv := by rw [Array.toList_map]; exact hp0
  refine wpList_step fun K hK => ?_
  rw [if_pos hw]
  refine wp_build t parts ho (by rw [hp, hb]; rfl) ?_
  rw [hp, hb]
  exact hK _ _ h
def RBlk (w : World) (x : Nat) (l k a b : Int) (zs : List Int) : Prop := Blk w x (rtv l k a b zs).toArray 29 ∧ zs.length = 32
theorem RBlk.lt {w : World} {x : Nat} {l k a b : Int} {zs : List Int} (h : RBlk w x l k a b zs) : x < w.heap.size := h.1.lt
theorem RBlk.bel {w w' : World} {x : Nat} {l k a b : Int} {zs : List Int} (h : RBlk w x l k a b zs) (j : Below w.heap.size w w') : RBlk w' x l k a b zs := ⟨h.1.below j h.lt, h.2⟩
theorem RBlk.below {w w' : World} {n x : Nat} {l k a b : Int} {zs : List Int} (h : RBlk w x l k a b zs) (j : Below n w w') (hx : x < n) : RBlk w' x l k a b zs := ⟨h.1.below j hx, h.2⟩
theorem RBlk.wrote {w w' : World} {x d : Nat} {l k a b : Int} {zs : List Int} (h : RBlk w x l k a b zs) (j : Wrote w w' d) (hne : x ≠ d) : RBlk w' x l k a b zs := ⟨(j.block x hne).trans h.1, h.2⟩
theorem RBlk.alloc {w : World} {x : Nat} {l k a b : Int} {zs : List Int} (h : RBlk w x l k a b zs) (o : Obj) : RBlk (w.alloc o) x l k a b zs := ⟨h.1.alloc o, h.2⟩
theorem RBlk.drew {w : World} {x : Nat} {l k a b : Int} {zs : List Int} (h : RBlk w x l k a b zs) : RBlk w.drew x l k a b zs := h
theorem RBlk.box (w : World) (l k a b : Int) {zs : List Int} (h : zs.length = 32) : RBlk (w.alloc (.cells (rtv l k a b zs).toArray 29)) w.heap.size l k a b zs := ⟨Blk.new w _ _, h⟩
theorem RBlk.new (w : World) : RBlk (w.alloc (.cells #[.int .i64 0, .int .i64 0, .int .i64 0, .int .i64 0, .int .u8 0, .int .u8 0, .int .u8 0, .int .u8 0, .int .u8 0, .int .u8 0, .int .u8 0, .int .u8 0, .int .u8 0, .int .u8 0, .int .u8 0, .int .u8 0, .int .u8 0, .int .u8 0, .int .u8 0, .int .u8 0, .int .u8 0, .int .u8 0, .int .u8 0, .int .u8 0, .int .u8 0, .int .u8 0, .int .u8 0, .int .u8 0, .int .u8 0, .int .u8 0, .int .u8 0, .int .u8 0, .int .u8 0, .int .u8 0, .int .u8 0, .int .u8 0] 29)) w.heap.size 0 0 0 0 (List.replicate 32 0) := ⟨Blk.new w _ _, rfl⟩
theorem RBlk.ints {w : World} {x : Nat} {l k a b : Int} {zs : List Int} (h : RBlk w x l k a b zs) : w.cell? ⟨x, 0, none⟩ = some (.int .i64 l) ∧ w.cell? ⟨x, 1, none⟩ = some (.int .i64 k) ∧ w.cell? ⟨x, 2, none⟩ = some (.int .i64 a) ∧ w.cell? ⟨x, 3, none⟩ = some (.int .i64 b) := ⟨h.1.cell 0, h.1.cell 1, h.1.cell 2, h.1.cell 3⟩
theorem RBlk.tag {w : World} {x : Nat} {l k a b : Int} {zs : List Int} (h : RBlk w x l k a b zs) : BytesAt w x 4 zs := fun j hj => by
  rw [h.1.cell (4 + j), List.getElem?_toArray, rtv]
  rw [show 4 + j = j + 1 + 1 + 1 + 1 by omega]
  simp [bv, hj]
theorem all_rt (l k a b : Int) (zs : List Int) : (rtv l k a b zs).toArray.all (·.oneCell') = true := all_oneCell_toArray (rtv_one l k a b zs)
theorem szRet (l k a b : Int) {zs : List Int} (h : zs.length = 32) : (Tryz.prog.info? 29).map (·.size) = some (rtv l k a b zs).length := by
  rw [rtv_len l k a b h]; kernel_rfl
theorem list_loadR {ops : Array Oper} {Q : Exit → Act → World → Prop} {o : Oper} {rest : List Oper} {c : Act} {w : World} (hw : Region.wanted o (yielded ops c.tmps) = true) (x : Operand) (ho : o.op = .load 29 x) (i : Nat) (hx : c.eval x = .pointer (some ⟨i, 0, none⟩))
    (l k a b : Int) (zs : List Int) (hb : RBlk w i l k a b zs) (h : wpList Tryz.prog ops Q rest (c.put o.dst (.agg (rtv l k a b zs).toArray)) w) : wpList Tryz.prog ops Q (o :: rest) c w :=
  list_load hw 29 x ho i 0 hx (rtv l k a b zs) _ hb.1.range Tryz.underlying29 rfl (szRet l k a b hb.2) h
theorem list_storeR {ops : Array Oper} {rest : List Oper} {o : Oper} {c : Act} {w : World} {Q : Exit → Act → World → Prop} (hgd : o.guard = none) (x y : Operand) (ho : o.op = .store 29 x y)
    (i : Nat) (hx : c.eval x = .pointer (some ⟨i, 0, none⟩)) (l k a b : Int) (ds : List Int) (hy : c.eval y = .agg (rtv l k a b ds).toArray) (ld : ds.length = 32) (l' k' a' b' : Int) (zs : List Int) (hb : RBlk w i l' k' a' b' zs)
    (h : ∀ w', RBlk w' i l k a b ds → Wrote w w' i → wpList Tryz.prog ops Q rest (c.put o.dst undef) w') : wpList Tryz.prog ops Q (o :: rest) c w := by
  refine wpList_store_mid hgd 29 x y ho i 0 (rtv l k a b ds).toArray hx hy ?_ (by rw [List.size_toArray]; exact szRet l k a b ld) (all_rt l k a b ds) ?_
  · have := hb.1.there
    rw [rtv_len _ _ _ _ hb.2] at this
    rw [List.size_toArray, rtv_len _ _ _ _ ld]
    exact this
  · exact h _ ⟨hb.1.fill (by rw [rtv_len _ _ _ _ hb.2, rtv_len _ _ _ _ ld]), ld⟩ (wrote_setCells i _ 0 w)
theorem yields_loadR {ops : Array Oper} {C : World → Prop} {o : Oper} {c : Act} (hw : Region.wanted o (yielded ops c.tmps) = true) (x : Operand) (ho : o.op = .load 29 x) (i : Nat) (hx : c.eval x = .pointer (some ⟨i, 0, none⟩))
    (l k a b : Int) (zs : List Int) (hl : zs.length = 32) (hc : ∀ u, C u → RBlk u i l k a b zs) : YieldsC Tryz.prog ops C o (.agg (rtv l k a b zs).toArray) c :=
  yields_load hw 29 x ho i 0 hx (rtv l k a b zs) _ (fun u hu => (hc u hu).1.range) Tryz.underlying29 rfl (szRet l k a b hl)
theorem load_ret {w : World} {x : Nat} {l k a b : Int} {zs : List Int} (h : RBlk w x l k a b zs) : (loadVar 29 ⟨x, 0, none⟩).run Tryz.prog w = .ok (.agg (rtv l k a b zs).toArray) w :=
  run_loadVar_mid w x 0 29 (rtv l k a b zs) _ h.1.range Tryz.underlying29 rfl (szRet l k a b h.2)
theorem results_cell_tmp {P : Program} {fn : Func} {p q : Tmp} {ty : TypeId} {a : Addr} {v : Value} {w : World} (h : fn.results = #[.cell p ty, .tmp q]) (tmps : Array Value) (hp : tmps.getD p undef = .pointer (some a))
    (hl : (loadVar ty a).run P w = .ok v w) : (results fn tmps).run P w = .ok (.tuple #[v, tmps.getD q undef]) w := by
  have hp' : tmps[p]?.getD undef = .pointer (some a) := by simpa using hp
  simp only [results, h]
  simp [Sem.run_bind, Result.andThen, hp', asAddr, hl]
theorem load_dig {w : World} {b : Nat} {zs : List Int} (h : Dg w b zs) : (loadVar 27 ⟨b, 0, none⟩).run Tryz.prog w = .ok (.agg (bv zs).toArray) w :=
  run_loadVar_mid w b 0 27 (bv zs) _ h.1.range Tryz.underlying27 rfl (size32' zs h.2)
-- the digest at the end of a return address is written
theorem list_storeTag {ops : Array Oper} {rest : List Oper} {o : Oper} {c : Act} {w : World} {Q : Exit → Act → World → Prop} (hgd : o.guard = none) (x y : Operand) (ho : o.op = .store 27 x y)
    (i : Nat) (hx : c.eval x = .pointer (some ⟨i, 4, none⟩)) (ds : List Int) (hy : c.eval y = .agg (bv ds).toArray) (ld : ds.length = 32) (l k a b : Int) (zs : List Int) (hb : RBlk w i l k a b zs)
    (h : ∀ w', RBlk w' i l k a b ds → Wrote w w' i → wpList Tryz.prog ops Q rest (c.put o.dst undef) w') : wpList Tryz.prog ops Q (o :: rest) c w := by
  refine wpList_store_mid hgd 27 x y ho i 4 (bv ds).toArray hx hy ?_ (by rw [List.size_toArray, bv_len, ld]; kernel_rfl) (all_oneCell_toArray (bv_one ds)) ?_
  · rw [List.size_toArray, bv_len, ld]
    intro j hj
    have := hb.1.there (4 + j) (by rw [rtv_len _ _ _ _ hb.2]; omega)
    rw [Nat.zero_add] at this
    exact this
  · refine h _ ⟨?_, ld⟩ (wrote_setCells i _ 4 w)
    exact Blk.setAll (bv ds) [.int .i64 l, .int .i64 k, .int .i64 a, .int .i64 b] (bv zs) hb.1 (by rw [bv_len, bv_len, ld, hb.2])
end Go.Proofs.YtpjobllfiimdkaaGreatDoor
namespace Go.Proofs.YtpjobllfiimdkaaGreatDoor
open Go.RowKit
set_option linter.unusedVariables false
set_option linter.unusedSimpArgs false

def intsA (zs : List Int) : List Atom := zs.map Atom.int
theorem intsA_len (zs : List Int) : (intsA zs).length = zs.length := by simp [intsA]
theorem intsA_get (zs : List Int) (k : Nat) (h : k < zs.length) : (intsA zs).getD k (.int 0) = .int (zs.getD k 0) := by simp [intsA, List.getD, h]
set_option maxRecDepth 100000 in
set_option maxHeartbeats 2000000 in
theorem otext_is (zs : List Int) (b n : Nat) (w : World) (hn : Hid (n = zs.length)) (h0 : 0 < n) (hm : n ≤ 1000) (hok : Hid (∀ a ∈ intsA zs, a.ok)) (hb : b < w.heap.size) (hl : Hid (∀ j, j < zs.length → w.cell? ⟨b, j, none⟩ = some (.int .i64 (zs.getD j 0)))) (hx : Hid (60 + lenA (intsA zs) ≤ 2000000000)) :
    Calls Tryz.prog 68 #[.slice (some ⟨b, 0, none⟩) n n] w fun e w' => ∃ v', e = .returned v' ∧ Own8 w' w.heap.size v' (encL (intsA zs)) ∧ Below w.heap.size w w' := by
  have hal := Lib.hid (intsA_len zs)
  go_enter Tryz.func68, Tryz.ntmps68
  go_wp2_with fail
  go_loopw [11] (fun i wr => ∃ (k : Nat) (v2 : Value), k ≤ n ∧ i = .int .i64 k ∧ Hid (Blk wr w.heap.size #[.int .i64 3, .int .i64 0, .string ⟨#[]⟩, v2] 84) ∧ Hid (OwnA wr (w.heap.size + 1) v2 ((intsA zs).take k)) ∧ Hid (Below w.heap.size w wr)) (fun i _ => n - (intOf i).toNat)
  case atStart => exact ⟨0, .slice none 0 0, by omega, rfl, Lib.hid (Blk.new w _ _), Lib.hid ⟨rfl, .inl ⟨rfl, rfl⟩⟩, Lib.hid (bel_alloc1 w _)⟩
  case round =>
    obtain ⟨k, v2, hk, rfl, HV, HO, HB⟩ := hrel
    have hwr : w.heap.size < wr.heap.size := HV.out.lt
    by_cases hlt : k < n
    · have hkl : k < zs.length := by rw [← hn.out]; exact hlt
      have cx : wr.cell? ⟨b, k, none⟩ = some (.int .i64 (zs.getD k 0)) := (HB.out.cell (p := ⟨b, k, none⟩) hb).trans (hl.out k hkl)
      have HTK := Lib.hid (take_snocA (l := intsA zs) (k := k) (by rw [intsA_len]; exact hkl))
      rw [intsA_get zs k hkl] at HTK
      obtain ⟨x, hxx⟩ : ∃ x, zs.getD k 0 = x := ⟨_, rfl⟩
      rw [hxx] at cx HTK
      have hlk : ((intsA zs).take k).length ≤ 1000 := by rw [List.length_take]; omega
      clear hxx hkl
      have cv3 := HV.out.cell 3
      go_wp2_with (refine appA rfl (.tmp 16) (.tmp 19) rfl (w.heap.size + 1) v2 ((intsA zs).take k) rfl (HO.out.below (bel_alloc1 wr _)) wr.heap.size (.int x) rfl (Blk.new wr _ _) (by omega) (by simp; omega) ?_)
      intro v3 u3 o3 g3
      have hne : v2.ownBlock ≠ some w.heap.size := by
        intro e
        have := (World.ownsRow.lt HO.out) _ e
        omega
      have HVA := Lib.hid (HV.out.alloc (.cells (atomCells (.int x)).toArray 84))
      have B3 := Lib.hid (show Blk u3 w.heap.size #[.int .i64 3, .int .i64 0, .string ⟨#[]⟩, v2] 84 from (g3.block _ (by simp; omega) (fun e => hne e.symm)).trans HVA.out)
      have K3 := Lib.hid (show Below w.heap.size w u3 from (HB.out.trans ((Below.mono (bel_alloc1 wr _) HB.out.size).trans ⟨g3.os, g3.tape, g3.output, by have := g3.size; simp at this ⊢; omega, fun i hi => g3.block i (by simp; omega) (by intro e; have := (World.ownsRow.lt HO.out) _ e.symm; omega)⟩)))
      have O3 := Lib.hid o3
      clear o3 g3 HVA
      obtain ⟨g4, cap4, hv4, _, _, _⟩ := OwnA.slice O3.out (by simp)
      obtain ⟨m4, hm4⟩ : ∃ m4, ((intsA zs).take k ++ [Atom.int x]).length = m4 := ⟨_, rfl⟩
      rw [hm4] at hv4
      clear hm4
      subst hv4
      have e3 := B3.out.cell 3
      have f3 := B3.out.frozen 3
      clear cv3 cx
      go_wp2_with fail
      refine ⟨⟨k + 1, .slice (some ⟨g4, 0, none⟩) m4 cap4, by omega, by simp, Lib.hid ?_, Lib.hid ?_, Lib.hid ?_⟩, ?_⟩
      · exact B3.out.set 3 _
      · rw [HTK.out]; exact OwnA.set O3.out (by omega)
      · exact K3.out.setCell (p := ⟨w.heap.size, 3, none⟩) (by simp) _
      · simp only [intOf]; omega
    · obtain rfl : k = n := by omega
      have e0 := HV.out.cell 0
      have e1 := HV.out.cell 1
      have e2 := HV.out.cell 2
      have e3 := HV.out.cell 3
      have hlA := HO.out
      rw [List.take_of_length_le (by rw [intsA_len]; have := hn.out; omega)] at hlA
      obtain ⟨g, cap, rfl, hg1, hg2, hat⟩ := hlA.slice (by rw [intsA_len]; have := hn.out; omega)
      have HAT := Lib.hid hat
      clear hat hlA
      have hll : (intsA zs).length ≤ 1000000 := by rw [intsA_len]; have := hn.out; omega
      go_wp2_with (go_at_call 71; refine (encode_list (intsA zs) g 0 (intsA zs).length cap _ (Lib.hid rfl) hll hok hg2 HAT hx).mono ?_; rintro e u1 ⟨v1, rfl, o1, k1⟩; have O1 := Lib.hid o1; have K1 := Lib.hid k1; clear o1 k1)
      go_ret
      exact ⟨v1, rfl, own8_mono O1.out (by omega), bel_trans HB.out K1.out⟩
/-- 'return' -/
def tRet : List Int := [114, 101, 116, 117, 114, 110]
theorem strRet : strL ⟨#[114, 101, 116, 117, 114, 110]⟩ = tRet := rfl
def okA (n : Int) : Prop := -9223372036854775808 ≤ n ∧ n ≤ 9223372036854775807
/-- the tag of four numbers -/
def IsTag (l k a b : Int) (ds : List Int) : Prop := ∃ ts, IsSha tRet ts ∧ IsSha (ts ++ encL (intsA [l, k, a, b])) ds
theorem isTag (l k a b : Int) : ∃ ds, IsTag l k a b ds := ⟨_, _, ⟨rfl⟩, ⟨rfl⟩⟩
theorem IsTag.len {l k a b : Int} {ds : List Int} (h : IsTag l k a b ds) : ds.length = 32 := by obtain ⟨ts, h1, h2⟩ := h; rw [← h2.eq]; exact sha_len _
theorem IsTag.rng {l k a b : Int} {ds : List Int} (h : IsTag l k a b ds) : ∀ z ∈ ds, 0 ≤ z ∧ z ≤ 255 := by obtain ⟨ts, h1, h2⟩ := h; rw [← h2.eq]; exact sha_rng _
theorem IsTag.det {l k a b : Int} {ds es : List Int} (h : IsTag l k a b ds) (q : IsTag l k a b es) : ds = es := by
  obtain ⟨ts, h1, h2⟩ := h
  obtain ⟨us, q1, q2⟩ := q
  rw [← h2.eq, ← q2.eq, ← h1.eq, ← q1.eq]
theorem ints_ok {l k a b : Int} (hl : okA l) (hk : okA k) (ha : okA a) (hb : okA b) : ∀ x ∈ intsA [l, k, a, b], x.ok := by
  intro x hx
  simp only [intsA, List.map_cons, List.map_nil, List.mem_cons, List.not_mem_nil, or_false] at hx
  rcases hx with rfl | rfl | rfl | rfl
  · exact hl
  · exact hk
  · exact ha
  · exact hb
theorem lenI (l k a b : Int) : lenA (intsA [l, k, a, b]) = 160 := by simp [lenA, intsA, Atom.sz]
/-- a digest of four own numbers -/
theorem tag_own (l k a b : Int) (B : Nat) (v : Value) (w : World) (hv : Hid (Own8 w B v (encL (intsA [l, k, a, b])))) (hok : Hid (∀ x ∈ intsA [l, k, a, b], x.ok)) (hk : Hid (KeysAt w)) (ds : List Int) (hd : Hid (IsTag l k a b ds)) :
    Calls Tryz.prog 67 #[.string ⟨#[114, 101, 116, 117, 114, 110]⟩, v] w fun e w' => e = .returned (.agg (bv ds).toArray) ∧ Below w.heap.size w w' := by
  obtain ⟨ts, h1, h2⟩ := hd.out
  obtain ⟨p, cap, rfl, s1, s2, s3, _⟩ := own8_src hv.out
  exact tagged_any _ p _ cap _ w (Lib.hid (.inl s1)) (Lib.hid (encL_rng hok.out)) (by decide) (by have := encL_len hok.out (by simp [intsA]); rw [lenI] at this; omega) hk ts ds (Lib.hid h1) (Lib.hid h2)
set_option maxRecDepth 100000 in
set_option maxHeartbeats 2000000 in
theorem otag_is (l k a b : Int) (zs : List Int) (w : World) (hz : Hid (zs.length = 32)) (hok : Hid (∀ x ∈ intsA [l, k, a, b], x.ok)) (hk : Hid (KeysAt w)) (ds : List Int) (hd : Hid (IsTag l k a b ds)) :
    Calls Tryz.prog 28 #[.agg (rtv l k a b zs).toArray] w fun e w' => e = .returned (.agg (bv ds).toArray) ∧ Below w.heap.size w w' := by
  have ld := Lib.hid hd.out.len
  have X0 := Lib.hid ((RBlk.box w l k a b hz.out).alloc (.cells #[.int .u8 0, .int .u8 0, .int .u8 0, .int .u8 0, .int .u8 0, .int .u8 0, .int .u8 0, .int .u8 0, .int .u8 0, .int .u8 0, .int .u8 0, .int .u8 0, .int .u8 0, .int .u8 0, .int .u8 0, .int .u8 0, .int .u8 0, .int .u8 0, .int .u8 0, .int .u8 0, .int .u8 0, .int .u8 0, .int .u8 0, .int .u8 0, .int .u8 0, .int .u8 0, .int .u8 0, .int .u8 0, .int .u8 0, .int .u8 0, .int .u8 0, .int .u8 0] 27))
  have D0 := Lib.hid (show Dg ((w.alloc (.cells (rtv l k a b zs).toArray 29)).alloc (.cells #[.int .u8 0, .int .u8 0, .int .u8 0, .int .u8 0, .int .u8 0, .int .u8 0, .int .u8 0, .int .u8 0, .int .u8 0, .int .u8 0, .int .u8 0, .int .u8 0, .int .u8 0, .int .u8 0, .int .u8 0, .int .u8 0, .int .u8 0, .int .u8 0, .int .u8 0, .int .u8 0, .int .u8 0, .int .u8 0, .int .u8 0, .int .u8 0, .int .u8 0, .int .u8 0, .int .u8 0, .int .u8 0, .int .u8 0, .int .u8 0, .int .u8 0, .int .u8 0] 27)) (w.heap.size + 1) (List.replicate 32 0) by have := Dg.new (w.alloc (.cells (rtv l k a b zs).toArray 29)); simpa using this)
  have B0 := Lib.hid (show Below w.heap.size w ((w.alloc (.cells (rtv l k a b zs).toArray 29)).alloc (.cells #[.int .u8 0, .int .u8 0, .int .u8 0, .int .u8 0, .int .u8 0, .int .u8 0, .int .u8 0, .int .u8 0, .int .u8 0, .int .u8 0, .int .u8 0, .int .u8 0, .int .u8 0, .int .u8 0, .int .u8 0, .int .u8 0, .int .u8 0, .int .u8 0, .int .u8 0, .int .u8 0, .int .u8 0, .int .u8 0, .int .u8 0, .int .u8 0, .int .u8 0, .int .u8 0, .int .u8 0, .int .u8 0, .int .u8 0, .int .u8 0, .int .u8 0, .int .u8 0] 27)) from (bel_alloc1 w _).alloc (by simp) _)
  obtain ⟨c0, c1, c2, c3⟩ := X0.out.ints
  go_enter Tryz.func28, Tryz.ntmps28
  go_upto_region 1 with fail
  generalize hW : World.alloc (World.alloc w _) _ = W at X0 D0 B0 c0 c1 c2 c3 ⊢
  clear hW
  go_wp2_with (first
    | (go_at_call 68; refine (otext_is [l, k, a, b] W.heap.size 4 _ (Lib.hid rfl) (by omega) (by omega) hok (by simp) (Lib.hid fun j h => by have := ints_new [l, k, a, b] W 3 j h; rwa [Nat.zero_add] at this) (Lib.hid (by rw [lenI]; omega))).mono ?_; rintro e w1 ⟨v1, rfl, o1, hb⟩; have O1 := Lib.hid o1; have BA := Lib.hid ((bel_alloc1 W _).trans (hb.mono (by simp))); have B1 := Lib.hid (bel_trans B0.out BA.out); have D1 := Lib.hid (D0.out.bel BA.out); clear o1 hb BA)
    | (go_at_call 67; refine (tag_own l k a b _ v1 w1 O1 hok (Lib.hid (hk.out.below B1.out)) ds hd).mono ?_; rintro e w2 ⟨rfl, hb⟩; have B2 := Lib.hid (bel_trans B1.out hb); have D2 := Lib.hid (D1.out.bel hb); clear hb)
    | (refine list_storeD rfl (.tmp 2) (.tmp 15) rfl (w.heap.size + 1) rfl ds rfl ld.out (List.replicate 32 0) D2.out ?_))
  intro w3 D3 k3
  have B3 := Lib.hid (B2.out.trans (k3.below (by omega)))
  have DD := Lib.hid D3
  clear D3 k3
  go_wp2_with fail
  refine bodyPost_ret (results_cell1 (a := ⟨w.heap.size + 1, 0, none⟩) (v := .agg (bv ds).toArray) rfl _ rfl (load_dig DD.out)) rfl ⟨rfl, B3.out⟩
end Go.Proofs.YtpjobllfiimdkaaGreatDoor
namespace Go.Proofs.YtpjobllfiimdkaaGreatDoor
open Go.RowKit
set_option linter.unusedVariables false
set_option linter.unusedSimpArgs false

def lineB (n : Int) : Bool := decide (0 ≤ n) && decide (n < 64)
theorem lineB_iff {n : Int} : lineB n = true ↔ 0 ≤ n ∧ n < 64 := by unfold lineB; simp
theorem wordB_iff {n : Int} : wordB n = true ↔ 1 ≤ n ∧ n ≤ 1073741789 := by unfold wordB; simp
theorem ovline_any (n : Int) (w : World) : Calls Tryz.prog 24 #[.int .i64 n] w fun e w' => e = .returned (.bool (lineB n)) ∧ w = w' := by
  by_cases h0 : 0 ≤ n
  case pos =>
    by_cases h1 : n < 64
    case pos =>
      rw [show lineB n = true by simp [lineB, h0, h1]]
      go_enter Tryz.func24, Tryz.ntmps24
      go_wp2_with fail
      go_ret
      exact ⟨rfl, rfl⟩
    case neg =>
      rw [show lineB n = false by unfold lineB; simp; omega]
      go_enter Tryz.func24, Tryz.ntmps24
      go_wp2_with fail
      go_ret
      exact ⟨rfl, rfl⟩
  case neg =>
    rw [show lineB n = false by unfold lineB; simp; omega]
    go_enter Tryz.func24, Tryz.ntmps24
    go_wp2_with fail
    go_ret
    exact ⟨rfl, rfl⟩
theorem oword_any (n : Int) (w : World) : Calls Tryz.prog 26 #[.int .i64 n] w fun e w' => e = .returned (.bool (wordB n)) ∧ w = w' := by
  by_cases h0 : 1 ≤ n
  case pos =>
    by_cases h1 : n ≤ 1073741789
    case pos =>
      rw [show wordB n = true by simp [wordB, h0, h1]]
      go_enter Tryz.func26, Tryz.ntmps26
      go_wp2_with fail
      go_ret
      exact ⟨rfl, rfl⟩
    case neg =>
      rw [show wordB n = false by unfold wordB; simp; omega]
      go_enter Tryz.func26, Tryz.ntmps26
      go_wp2_with fail
      go_ret
      exact ⟨rfl, rfl⟩
  case neg =>
    rw [show wordB n = false by unfold wordB; simp; omega]
    go_enter Tryz.func26, Tryz.ntmps26
    go_wp2_with fail
    go_ret
    exact ⟨rfl, rfl⟩

theorem omul_any (a b : Int) (w : World) :
    Calls Tryz.prog 77 #[.int .i64 a, .int .i64 b] w fun e w' => e = .returned (.int .i64 (mulZ a b)) ∧ Below w.heap.size w w' := by
  go_enter Tryz.func77, Tryz.ntmps77
  go_wp2_with (go_at_call 62; refine (gMul_any a b _).mono ?_; rintro e w1 ⟨rfl, hb⟩)
  go_ret
  exact ⟨rfl, hb⟩
/-- a cipher: an element sealed by a number -/
structure IsCip (key e r a b : Int) : Prop where
  ha : powZ 4 r = a
  hb : mulZ e (powZ key r) = b
theorem isCip (key e r : Int) : ∃ a b, IsCip key e r a b := ⟨_, _, rfl, rfl⟩
theorem elm_el {n : Int} (h : wordB n = true) : elB (elmZ n) = true := by
  have h := wordB_iff.1 h
  unfold elmZ; rw [if_pos h]
  cases hv : elB n with
  | true => rw [if_pos rfl]; exact hv
  | false => rw [if_neg (by simp), element_low h.1 (by omega), hv]; rfl
theorem IsCip.el {key e r a b : Int} (h : IsCip key e r a b) (hk : elB key = true) (he : elB e = true) : elB a = true ∧ elB b = true := by
  rw [← h.ha, ← h.hb]
  exact ⟨powZ_el elB_4 r, mulZ_el he (powZ_el hk r)⟩
theorem sealL_eq (key n0 n1 n2 r0 r1 r2 : Int) : sealL key n0 n1 n2 r0 r1 r2 = ((powZ 4 r0, mulZ (elmZ n0) (powZ key r0)), (powZ 4 r1, mulZ (elmZ n1) (powZ key r1)), (powZ 4 r2, mulZ (elmZ n2) (powZ key r2))) := by
  simp only [sealL, mapL, gMask, gSay, nth3, mulZ_one (powZ_el elB_4 _)]
  rfl
theorem seal_is (key n0 n1 n2 r0 r1 r2 a0 b0 a1 b1 a2 b2 : Int) (w : World) (hk : Hid (elB key = true)) (hw : Hid (wordB n0 = true ∧ wordB n1 = true ∧ wordB n2 = true)) (h0 : Hid (IsCip key (elmZ n0) r0 a0 b0)) (h1 : Hid (IsCip key (elmZ n1) r1 a1 b1)) (h2 : Hid (IsCip key (elmZ n2) r2 a2 b2)) :
    Calls Tryz.prog 27 #[.int .i64 key, .agg #[.int .i64 n0, .int .i64 n1, .int .i64 n2], .agg #[.int .i64 r0, .int .i64 r1, .int .i64 r2]] w
      fun e w' => e = .returned (.tuple #[sealedV a0 b0 a1 b1 a2 b2, .int .i64 0]) ∧ Below w.heap.size w w' := by
  obtain ⟨x0, x1, x2⟩ := hw.out
  have e1 : sealR key n0 n1 n2 r0 r1 r2 = ((a0, b0), (a1, b1), (a2, b2)) := by
    unfold sealR; rw [hk.out, x0, x1, x2]
    simp only [Bool.and_self, if_true]
    rw [sealL_eq, h0.out.ha, h0.out.hb, h1.out.ha, h1.out.hb, h2.out.ha, h2.out.hb]
  have e2 : sealE key n0 n1 n2 = 0 := by unfold sealE; rw [hk.out, x0, x1, x2]; rfl
  have := seal_any key n0 n1 n2 r0 r1 r2 w
  rw [e1, e2] at this
  exact this
set_option maxRecDepth 100000 in
set_option maxHeartbeats 4000000 in
theorem omake_line (line key alias r : Int) (w : World) (hl : Hid (lineB line = false)) :
    Calls Tryz.prog 10 #[.int .i64 line, .int .i64 key, .int .i64 alias, .int .i64 r] w fun e w' => e = .returned (.tuple #[.agg (rtv 0 0 0 0 (List.replicate 32 0)).toArray, .int .i64 160]) ∧ Below w.heap.size w w' := by
  have X0 := Lib.hid (RBlk.new w)
  have B0 := Lib.hid (bel_alloc1 w (.cells #[.int .i64 0, .int .i64 0, .int .i64 0, .int .i64 0, .int .u8 0, .int .u8 0, .int .u8 0, .int .u8 0, .int .u8 0, .int .u8 0, .int .u8 0, .int .u8 0, .int .u8 0, .int .u8 0, .int .u8 0, .int .u8 0, .int .u8 0, .int .u8 0, .int .u8 0, .int .u8 0, .int .u8 0, .int .u8 0, .int .u8 0, .int .u8 0, .int .u8 0, .int .u8 0, .int .u8 0, .int .u8 0, .int .u8 0, .int .u8 0, .int .u8 0, .int .u8 0, .int .u8 0, .int .u8 0, .int .u8 0, .int .u8 0] 29))
  go_enter Tryz.func10, Tryz.ntmps10
  go_upto_region 1 with fail
  generalize World.alloc w _ = W0 at X0 B0 ⊢
  go_wp2_with (first
    | (go_at_call 24; refine (ovline_any line _).mono ?_; rintro e w' ⟨rfl, rfl⟩; rw [hl.out])
    | (refine list_storeR rfl (.tmp 8) (.tmp 16) rfl w.heap.size rfl 0 0 0 0 (List.replicate 32 0) rfl rfl 0 0 0 0 (List.replicate 32 0) X0.out ?_))
  intro w1 q1 k1
  have X1 := Lib.hid q1
  have B1 := Lib.hid (B0.out.trans (k1.below (by omega)))
  clear q1 k1
  go_wp2_with fail
  refine bodyPost_ret (v := .tuple #[.agg (rtv 0 0 0 0 (List.replicate 32 0)).toArray, .int .i64 160]) (results_cell_tmp (a := ⟨w.heap.size, 0, none⟩) Tryz.results10 _ rfl (load_ret X1.out)) rfl ⟨rfl, B1.out⟩
set_option maxRecDepth 100000 in
set_option maxHeartbeats 4000000 in
theorem omake_key (line key alias r : Int) (w : World) (hl : Hid (lineB line = true)) (hk : Hid (elB key = false)) :
    Calls Tryz.prog 10 #[.int .i64 line, .int .i64 key, .int .i64 alias, .int .i64 r] w fun e w' => e = .returned (.tuple #[.agg (rtv 0 0 0 0 (List.replicate 32 0)).toArray, .int .i64 90]) ∧ Below w.heap.size w w' := by
  have X0 := Lib.hid (RBlk.new w)
  have B0 := Lib.hid (bel_alloc1 w (.cells #[.int .i64 0, .int .i64 0, .int .i64 0, .int .i64 0, .int .u8 0, .int .u8 0, .int .u8 0, .int .u8 0, .int .u8 0, .int .u8 0, .int .u8 0, .int .u8 0, .int .u8 0, .int .u8 0, .int .u8 0, .int .u8 0, .int .u8 0, .int .u8 0, .int .u8 0, .int .u8 0, .int .u8 0, .int .u8 0, .int .u8 0, .int .u8 0, .int .u8 0, .int .u8 0, .int .u8 0, .int .u8 0, .int .u8 0, .int .u8 0, .int .u8 0, .int .u8 0, .int .u8 0, .int .u8 0, .int .u8 0, .int .u8 0] 29))
  go_enter Tryz.func10, Tryz.ntmps10
  go_upto_region 1 with fail
  generalize World.alloc w _ = W0 at X0 B0 ⊢
  go_wp2_with (first
    | (go_at_call 24; refine (ovline_any line _).mono ?_; rintro e w' ⟨rfl, rfl⟩; rw [hl.out])
    | (go_at_call 25; refine (val_c key _ _ hk.out).mono ?_; rintro e w' ⟨rfl, rfl⟩)
    | (refine list_storeR rfl (.tmp 8) (.tmp 21) rfl w.heap.size rfl 0 0 0 0 (List.replicate 32 0) rfl rfl 0 0 0 0 (List.replicate 32 0) X0.out ?_))
  intro w1 q1 k1
  have X1 := Lib.hid q1
  have B1 := Lib.hid (B0.out.trans (k1.below (by omega)))
  clear q1 k1
  go_wp2_with fail
  refine bodyPost_ret (v := .tuple #[.agg (rtv 0 0 0 0 (List.replicate 32 0)).toArray, .int .i64 90]) (results_cell_tmp (a := ⟨w.heap.size, 0, none⟩) Tryz.results10 _ rfl (load_ret X1.out)) rfl ⟨rfl, B1.out⟩
set_option maxRecDepth 100000 in
set_option maxHeartbeats 4000000 in
theorem omake_word (line key alias r : Int) (w : World) (hl : Hid (lineB line = true)) (hk : Hid (elB key = true)) (hw : Hid (wordB alias = false)) :
    Calls Tryz.prog 10 #[.int .i64 line, .int .i64 key, .int .i64 alias, .int .i64 r] w fun e w' => e = .returned (.tuple #[.agg (rtv 0 0 0 0 (List.replicate 32 0)).toArray, .int .i64 160]) ∧ Below w.heap.size w w' := by
  have X0 := Lib.hid (RBlk.new w)
  have B0 := Lib.hid (bel_alloc1 w (.cells #[.int .i64 0, .int .i64 0, .int .i64 0, .int .i64 0, .int .u8 0, .int .u8 0, .int .u8 0, .int .u8 0, .int .u8 0, .int .u8 0, .int .u8 0, .int .u8 0, .int .u8 0, .int .u8 0, .int .u8 0, .int .u8 0, .int .u8 0, .int .u8 0, .int .u8 0, .int .u8 0, .int .u8 0, .int .u8 0, .int .u8 0, .int .u8 0, .int .u8 0, .int .u8 0, .int .u8 0, .int .u8 0, .int .u8 0, .int .u8 0, .int .u8 0, .int .u8 0, .int .u8 0, .int .u8 0, .int .u8 0, .int .u8 0] 29))
  go_enter Tryz.func10, Tryz.ntmps10
  go_upto_region 1 with fail
  generalize World.alloc w _ = W0 at X0 B0 ⊢
  go_wp2_with (first
    | (go_at_call 24; refine (ovline_any line _).mono ?_; rintro e w' ⟨rfl, rfl⟩; rw [hl.out])
    | (go_at_call 25; refine (val_c key _ _ hk.out).mono ?_; rintro e w' ⟨rfl, rfl⟩)
    | (go_at_call 26; refine (oword_any alias _).mono ?_; rintro e w' ⟨rfl, rfl⟩; rw [hw.out])
    | (refine list_storeR rfl (.tmp 8) (.tmp 26) rfl w.heap.size rfl 0 0 0 0 (List.replicate 32 0) rfl rfl 0 0 0 0 (List.replicate 32 0) X0.out ?_))
  intro w1 q1 k1
  have X1 := Lib.hid q1
  have B1 := Lib.hid (B0.out.trans (k1.below (by omega)))
  clear q1 k1
  go_wp2_with fail
  refine bodyPost_ret (v := .tuple #[.agg (rtv 0 0 0 0 (List.replicate 32 0)).toArray, .int .i64 160]) (results_cell_tmp (a := ⟨w.heap.size, 0, none⟩) Tryz.results10 _ rfl (load_ret X1.out)) rfl ⟨rfl, B1.out⟩
set_option maxRecDepth 100000 in
set_option maxHeartbeats 4000000 in
theorem omake_ok (line key alias r : Int) (w : World) (hl : Hid (lineB line = true)) (hk : Hid (elB key = true)) (hw : Hid (wordB alias = true)) (a b : Int) (ds : List Int) (hc : Hid (IsCip key (elmZ alias) r a b)) (hd : Hid (IsTag line key a b ds)) (hk0 : Hid (KeysAt w)) :
    Calls Tryz.prog 10 #[.int .i64 line, .int .i64 key, .int .i64 alias, .int .i64 r] w fun e w' => e = .returned (.tuple #[.agg (rtv line key a b ds).toArray, .int .i64 0]) ∧ Below w.heap.size w w' := by
  obtain ⟨a1, b1, hc1⟩ := isCip key (elmZ 1) 0
  have HC1 := Lib.hid hc1
  clear hc1
  have HW := Lib.hid (show wordB alias = true ∧ wordB 1 = true ∧ wordB 1 = true from ⟨hw.out, by decide, by decide⟩)
  have ld := Lib.hid hd.out.len
  have hok := Lib.hid (show ∀ x ∈ intsA [line, key, a, b], x.ok by
    have h1 := lineB_iff.1 hl.out
    have h2 := elB_iff hk.out
    obtain ⟨h3, h4⟩ := hc.out.el hk.out (elm_el hw.out)
    have h3 := elB_iff h3
    have h4 := elB_iff h4
    exact ints_ok ⟨by omega, by omega⟩ ⟨by omega, by omega⟩ ⟨by omega, by omega⟩ ⟨by omega, by omega⟩)
  have X0 := Lib.hid (RBlk.new w)
  have B0 := Lib.hid (bel_alloc1 w (.cells #[.int .i64 0, .int .i64 0, .int .i64 0, .int .i64 0, .int .u8 0, .int .u8 0, .int .u8 0, .int .u8 0, .int .u8 0, .int .u8 0, .int .u8 0, .int .u8 0, .int .u8 0, .int .u8 0, .int .u8 0, .int .u8 0, .int .u8 0, .int .u8 0, .int .u8 0, .int .u8 0, .int .u8 0, .int .u8 0, .int .u8 0, .int .u8 0, .int .u8 0, .int .u8 0, .int .u8 0, .int .u8 0, .int .u8 0, .int .u8 0, .int .u8 0, .int .u8 0, .int .u8 0, .int .u8 0, .int .u8 0, .int .u8 0] 29))
  go_enter Tryz.func10, Tryz.ntmps10
  go_upto_region 1 with fail
  generalize World.alloc w _ = W0 at X0 B0 ⊢
  go_upto_region 8 with (first
    | (go_at_call 24; refine (ovline_any line _).mono ?_; rintro e w' ⟨rfl, rfl⟩; rw [hl.out])
    | (go_at_call 25; refine (val_c key _ _ hk.out).mono ?_; rintro e w' ⟨rfl, rfl⟩)
    | (go_at_call 26; refine (oword_any alias _).mono ?_; rintro e w' ⟨rfl, rfl⟩; rw [hw.out])
    | (go_at_call 27; refine (seal_is key alias 1 1 r 0 0 a b a1 b1 a1 b1 _ hk HW hc HC1 HC1).mono ?_; rintro e w1 ⟨rfl, hb⟩; have B1 := Lib.hid (bel_trans B0.out hb); have X1 := Lib.hid (X0.out.bel hb); clear hb))
  have lt1 := X1.out.lt
  have S2 := Lib.hid (Blk.new w1 #[.int .i64 a, .int .i64 b, .int .i64 a1, .int .i64 b1, .int .i64 a1, .int .i64 b1] 32)
  have X2 := Lib.hid (X1.out.alloc (.cells #[.int .i64 a, .int .i64 b, .int .i64 a1, .int .i64 b1, .int .i64 a1, .int .i64 b1] 32))
  have B2 := Lib.hid (B1.out.trans (Below.mono (bel_alloc1 w1 (.cells #[.int .i64 a, .int .i64 b, .int .i64 a1, .int .i64 b1, .int .i64 a1, .int .i64 b1] 32)) B1.out.size))
  generalize World.alloc w1 _ = w2 at S2 X2 B2 ⊢
  generalize w1.heap.size = sb at S2 ⊢
  have c0 := S2.out.cell 0
  have c1 := S2.out.cell 1
  go_step
  refine list_val (by rfl) (.int .i64 line) (by go_simp) ?_
  simp only [Act.put, List.setIfInBounds_toArray, List.set_cons_succ, List.set_cons_zero]
  refine list_val (by rfl) (.int .i64 key) (by go_simp) ?_
  simp only [Act.put, List.setIfInBounds_toArray, List.set_cons_succ, List.set_cons_zero]
  refine list_val (by rfl) (.pointer (some ⟨sb, 0, none⟩)) (by go_simp) ?_
  simp only [Act.put, List.setIfInBounds_toArray, List.set_cons_succ, List.set_cons_zero]
  refine list_val (by rfl) (.agg #[.int .i64 a, .int .i64 b]) (by go_simp) ?_
  simp only [Act.put, List.setIfInBounds_toArray, List.set_cons_succ, List.set_cons_zero]
  refine list_build (by rfl) 29 _ rfl [(0, .int .i64 line), (1, .int .i64 key), (2, .agg #[.int .i64 a, .int .i64 b])] (by rfl) _ (built_r3 line key a b) ?_
  simp only [Act.put, List.setIfInBounds_toArray, List.set_cons_succ, List.set_cons_zero]
  refine list_storeR rfl (.tmp 8) (.tmp 40) rfl w.heap.size rfl line key a b (List.replicate 32 0) rfl rfl 0 0 0 0 (List.replicate 32 0) X2.out ?_
  intro w3 q3 k3
  have X3 := Lib.hid q3
  have B3 := Lib.hid (B2.out.trans (k3.below (by omega)))
  clear q3 k3 c0 c1
  go_wp2_with (first
    | (refine list_loadR (by rfl) (.tmp 8) rfl w.heap.size rfl line key a b (List.replicate 32 0) X3.out ?_)
    | (go_at_call 28; refine (otag_is line key a b (List.replicate 32 0) _ (Lib.hid rfl) hok (Lib.hid (hk0.out.below B3.out)) ds hd).mono ?_; rintro e w4 ⟨rfl, hb⟩; have B4 := Lib.hid (bel_trans B3.out hb); have X4 := Lib.hid (X3.out.bel hb); clear hb)
    | (refine list_storeTag rfl (.tmp 43) (.tmp 42) rfl w.heap.size rfl ds rfl ld.out line key a b (List.replicate 32 0) X4.out ?_))
  intro w5 q5 k5
  have X5 := Lib.hid q5
  have B5 := Lib.hid (B4.out.trans (k5.below (by omega)))
  clear q5 k5
  go_wp2_with (first
    | (refine list_loadR (by rfl) (.tmp 8) rfl w.heap.size rfl line key a b ds X5.out ?_)
    | (refine list_storeR rfl (.tmp 8) (.tmp 44) rfl w.heap.size rfl line key a b ds rfl ld.out line key a b ds X5.out ?_))
  intro w6 q6 k6
  have X6 := Lib.hid q6
  have B6 := Lib.hid (B5.out.trans (k6.below (by omega)))
  clear q6 k6
  go_wp2_with fail
  refine bodyPost_ret (v := .tuple #[.agg (rtv line key a b ds).toArray, .int .i64 0]) (results_cell_tmp (a := ⟨w.heap.size, 0, none⟩) Tryz.results10 _ rfl (load_ret X6.out)) rfl ⟨rfl, B6.out⟩
end Go.Proofs.YtpjobllfiimdkaaGreatDoor
