/- Package sign: the values of integers and texts, and their encoding. -/
import Derived.Test.YtpjobllfiimdkaaGreatDoorCodZ
import Derived.Laws.BytesArg
import Derived.Shelf.Bytes.SlSmallAll
namespace Go.Proofs.YtpjobllfiimdkaaGreatDoor
open Go.RowKit
set_option linter.unusedVariables false
set_option linter.unusedSimpArgs false

theorem conv_srcW {w : World} {p : Option Addr} {m c : Nat} {bs : List Int} (h : SrcW w p m c bs) : (convert 51 9 (.slice p m c)).run Tryz.prog w = .ok (.string (strB bs)) w := by
  rcases h with ⟨rfl, ⟨rfl, h0, rfl⟩ | ⟨b, off, rfl, hb, hc⟩⟩ | ⟨rfl, rfl, rfl, ad, rfl⟩
  · obtain rfl : bs = [] := List.eq_nil_of_length_eq_zero h0
    exact run_convert_bytes_zero w 51 5 Tryz.underlying51 Tryz.underlying5 none 0 _ Tryz.underlying9
  · exact run_convert_bytes_arg w 51 5 Tryz.underlying51 Tryz.underlying5 b off bs.length c bs rfl hc _ Tryz.underlying9
  · exact run_convert_bytes_zero w 51 5 Tryz.underlying51 Tryz.underlying5 (some ad) 0 _ Tryz.underlying9
/-- an integer or a text, as sign.text gets it -/
def Item (w : World) (v : Value) : Atom → Prop
  | .int n => v = .iface 3 (.int .i64 n)
  | .text bs => ∃ p m c, v = .iface 51 (.slice p m c) ∧ SrcW w p m c bs
theorem Item.below {w w' : World} {v : Value} {a : Atom} (h : Item w v a) (k : Below w.heap.size w w') : Item w' v a := by
  cases a with
  | int n => exact h
  | text bs => obtain ⟨p, m, c, e, hs⟩ := h; exact ⟨p, m, c, e, hs.below k⟩
@[local go_sem] theorem ta_int (n : Int) (w : World) : (Instr.typeAssert (.iface 3 (.int .i64 n)) 20 3 true).run Tryz.prog w = .ok (.tuple #[.int .i64 n, .bool true]) w := by
  simp [Instr.typeAssert, run_underlying Tryz.underlying3, go_sem]
@[local go_sem] theorem ta_no (p : Option Addr) (m c : Nat) (w : World) : (Instr.typeAssert (.iface 51 (.slice p m c)) 20 3 true).run Tryz.prog w = .ok (.tuple #[.int .i64 0, .bool false]) w := by
  have hz : (zeroValue 3).run Tryz.prog w = .ok (.int .i64 0) w := by kernel_rfl
  simp [Instr.typeAssert, run_underlying Tryz.underlying3, go_sem, hz]
@[local go_sem] theorem ta_bytes (p : Option Addr) (m c : Nat) (w : World) : (Instr.typeAssert (.iface 51 (.slice p m c)) 20 51 true).run Tryz.prog w = .ok (.tuple #[.slice p m c, .bool true]) w := by
  simp [Instr.typeAssert, run_underlying Tryz.underlying51, go_sem]
set_option maxRecDepth 100000 in
set_option maxHeartbeats 2000000 in
theorem value_int (n : Int) (w : World) : Calls Tryz.prog 70 #[.iface 3 (.int .i64 n)] w fun e w' => e = .returned (.agg #[.int .i64 1, .int .i64 n, .string ⟨#[]⟩, .slice none 0 0]) ∧ Below w.heap.size w w' := by
  go_enter Tryz.func70, Tryz.ntmps70
  go_wp2_with fail
  refine bodyPost_ret (v := .agg #[.int .i64 1, .int .i64 n, .string ⟨#[]⟩, .slice none 0 0]) (by simp [results, Tryz.results70, go_sem]) rfl ⟨rfl, ?_⟩
  repeat refine Below.setCell ?_ (by simp) _
  exact bel_alloc1 w _
set_option maxRecDepth 100000 in
set_option maxHeartbeats 2000000 in
theorem value_bytes (p : Option Addr) (m c : Nat) (bs : List Int) (w : World) (hz : Hid (SrcW w p m c bs)) : Calls Tryz.prog 70 #[.iface 51 (.slice p m c)] w fun e w' => e = .returned (.agg #[.int .i64 2, .int .i64 0, .string (strB bs), .slice none 0 0]) ∧ Below w.heap.size w w' := by
  have hconv := conv_srcW (hz.out.below (bel_alloc1 w (.cells #[.int .i64 0, .int .i64 0, .string ⟨#[]⟩, .slice none 0 0] 84)))
  obtain ⟨st, hst⟩ : ∃ st, strB bs = st := ⟨_, rfl⟩
  rw [hst] at hconv ⊢
  clear hst
  go_enter Tryz.func70, Tryz.ntmps70
  go_wp2_with fail
  refine bodyPost_ret (v := .agg #[.int .i64 2, .int .i64 0, .string st, .slice none 0 0]) (by simp [results, Tryz.results70, go_sem]) rfl ⟨rfl, ?_⟩
  repeat refine Below.setCell ?_ (by simp) _
  exact bel_alloc1 w _
theorem value_item (v : Value) (a : Atom) (w : World) (h : Item w v a) : Calls Tryz.prog 70 #[v] w fun e w' => e = .returned (.agg #[.int .i64 a.kind, .int .i64 a.num, .string a.str, .slice none 0 0]) ∧ Below w.heap.size w w' := by
  cases a with
  | int n => subst h; exact value_int n w
  | text bs =>
    obtain ⟨p, m, c, rfl, hs⟩ := h
    exact value_bytes p m c bs w (Lib.hid hs)

/-! rows of values that the walk has made -/
def atomCells (a : Atom) : List Value := [.int .i64 a.kind, .int .i64 a.num, .string a.str, .slice none 0 0]
def rowA (l : List Atom) : List Value := (l.map atomCells).flatten
theorem rowA_cons (a : Atom) (l : List Atom) : rowA (a :: l) = atomCells a ++ rowA l := rfl
theorem rowA_snoc (l : List Atom) (a : Atom) : rowA (l ++ [a]) = rowA l ++ atomCells a := by simp [rowA]
theorem rowA_len (l : List Atom) : (rowA l).length = l.length * 4 := by
  induction l with
  | nil => rfl
  | cons a l ih => rw [rowA_cons, List.length_append, ih]; simp [atomCells]; omega
theorem rowA_get : ∀ (l : List Atom) (k j : Nat), k < l.length → j < 4 → (rowA l)[k * 4 + j]? = (atomCells (l.getD k (.int 0)))[j]?
  | [], k, j, hk, _ => by simp at hk
  | a :: l, 0, j, _, hj => by
    rw [rowA_cons, List.getElem?_append_left (by simp [atomCells]; omega)]; simp
  | a :: l, k + 1, j, hk, hj => by
    rw [rowA_cons, List.getElem?_append_right (by simp [atomCells]; omega)]
    have e : (k + 1) * 4 + j - (atomCells a).length = k * 4 + j := by simp [atomCells]; omega
    rw [e, rowA_get l k j (by simpa using hk) hj]; simp
def OwnA (w : World) (B : Nat) (v : Value) (l : List Atom) : Prop := w.ownsRow B 84 4 v l.length (rowA l)
theorem infoA : (Tryz.prog.info? 84).map (fun i => (i.zero, i.size, i.bytes)) = some (some (.agg #[.int .i64 0, .int .i64 0, .string ⟨#[]⟩, .slice none 0 0]), 4, 56) := by kernel_rfl
theorem OwnA.below {w w' : World} {B : Nat} {v : Value} {l : List Atom} (h : OwnA w B v l) (k : Below w.heap.size w w') : OwnA w' B v l := by
  refine World.ownsRow.kept (row := none) h ⟨k.os, k.tape, k.output, k.size, fun i hi _ => k.block i hi⟩ ?_
  cases hv : v.ownBlock with
  | none => exact .inl rfl
  | some b => exact .inr (by simp)
theorem OwnA.slice {w : World} {B : Nat} {v : Value} {l : List Atom} (h : OwnA w B v l) (h0 : 0 < l.length) : ∃ g cap, v = .slice (some ⟨g, 0, none⟩) l.length cap ∧ B ≤ g ∧ g < w.heap.size ∧ AtomsAt w g 0 l := by
  have hown := h
  obtain ⟨h1, h2 | ⟨g, cap, cur, rfl, hBg, hg, hn, hm, hs, ht⟩⟩ := h
  · omega
  · refine ⟨g, cap, rfl, hBg, (Array.getElem?_eq_some_iff.1 hg).1, fun k hk => ?_⟩
    have each : ∀ j, j < 4 → ∀ u, (atomCells (l.getD k (.int 0)))[j]? = some u → w.cell? ⟨g, 0 + k * 4 + j, none⟩ = some u := by
      intro j hj u hu
      have := World.ownsRow.cells hown (g := g) rfl (k * 4 + j) u ((rowA_get l k j hk hj).trans hu)
      rw [Addr.add_mid] at this
      rw [Nat.add_assoc]
      exact this
    exact ⟨each 0 (by omega) _ rfl, each 1 (by omega) _ rfl, each 2 (by omega) _ rfl, each 3 (by omega) _ rfl⟩
theorem OwnA.set {w : World} {B b o : Nat} {v x : Value} {l : List Atom} (h : OwnA w B v l) (hb : b < B) : OwnA (w.setCell ⟨b, o, none⟩ x) B v l := by
  obtain ⟨h1, h2 | ⟨g, cap, cur, e1, e2, e3, e4⟩⟩ := h
  · exact ⟨h1, .inl h2⟩
  · exact ⟨h1, .inr ⟨g, cap, cur, e1, e2, (Below.heap_setCell w ⟨b, o, none⟩ x g (by show g ≠ b; omega)).trans e3, e4⟩⟩
/-- append of one value -/
theorem appA {ops : Array Oper} {rest : List Oper} {o : Oper} {a : Act} {w : World} {Q : Exit → Act → World → Prop} (hgd : o.guard = none) (s x : Operand)
    (ho : o.op = .call { callee := .builtin .append, args := #[s, x], argTypes := #[82, 82] }) (B : Nat) (v : Value) (l : List Atom) (hs : a.eval s = v) (hown : OwnA w B v l)
    (b : Nat) (at' : Atom) (hx : a.eval x = .slice (some ⟨b, 0, none⟩) 1 1) (hb : Blk w b (atomCells at').toArray 84) (hlen : l.length ≤ 1000000) (hB : B ≤ w.heap.size)
    (h : ∀ v' w', OwnA w' B v' (l ++ [at']) → w.grownBy w' v.ownBlock → wpList Tryz.prog ops Q rest (a.put o.dst v') w') : wpList Tryz.prog ops Q (o :: rest) a w := by
  obtain ⟨i0, hi, hz0, hz1, hz2⟩ := info_parts infoA
  refine wpList_append_own _ hgd s x 82 ho B 84 i0 (.agg #[.int .i64 0, .int .i64 0, .string ⟨#[]⟩, .slice none 0 0]) 4 56 Tryz.underlying82 hi hz0 hz1 hz2 rfl (by decide) v l.length (rowA l) hs hown ⟨b, 0, none⟩ 1 1 (atomCells at') hx rfl ?_ ?_ (by unfold maxLen; omega) (by omega) hB ?_
  · intro j u hj
    rw [Addr.add_mid, Nat.zero_add, hb.cell j, List.getElem?_toArray]; exact hj
  · intro u hu
    simp only [atomCells, List.mem_cons, List.not_mem_nil, or_false] at hu
    rcases hu with rfl | rfl | rfl | rfl <;> rfl
  · intro v' w' h1 h2 _
    refine h v' w' ?_ h2
    unfold OwnA
    rw [List.length_append, rowA_snoc]
    exact h1
/-- the items lie one behind the other -/
def ItemsAt (w : World) (b : Nat) (l : List Atom) : Prop := ∀ k, k < l.length → ∃ v, w.cell? ⟨b, k, none⟩ = some v ∧ Item w v (l.getD k (.int 0))
theorem ItemsAt.below {w w' : World} {b : Nat} {l : List Atom} (h : ItemsAt w b l) (k : Below w.heap.size w w') (hb : b < w.heap.size) : ItemsAt w' b l := fun j hj => by
  obtain ⟨v, h1, h2⟩ := h j hj
  exact ⟨v, (k.cell hb).trans h1, h2.below k⟩
theorem take_snocA {l : List Atom} {k : Nat} (h : k < l.length) : l.take (k + 1) = l.take k ++ [l.getD k (.int 0)] := by rw [List.take_succ_eq_append_getElem h]; simp [List.getD, h]
set_option maxRecDepth 100000 in
set_option maxHeartbeats 2000000 in
theorem text_items (l : List Atom) (b n : Nat) (w : World) (hn : Hid (n = l.length)) (h0 : 0 < n) (hm : n ≤ 1000) (hok : Hid (∀ a ∈ l, a.ok)) (hb : b < w.heap.size) (hl : Hid (ItemsAt w b l)) (hx : Hid (60 + lenA l ≤ 2000000000)) :
    Calls Tryz.prog 38 #[.slice (some ⟨b, 0, none⟩) n n] w fun e w' => ∃ v', e = .returned v' ∧ Own8 w' w.heap.size v' (encL l) ∧ Below w.heap.size w w' := by
  go_enter Tryz.func38, Tryz.ntmps38
  go_wp2_with fail
  go_loopw [11] (fun i wr => ∃ (k : Nat) (v2 : Value), k ≤ n ∧ i = .int .i64 k ∧ Hid (Blk wr w.heap.size #[.int .i64 3, .int .i64 0, .string ⟨#[]⟩, v2] 84) ∧ Hid (OwnA wr (w.heap.size + 1) v2 (l.take k)) ∧ Hid (Below w.heap.size w wr)) (fun i _ => n - (intOf i).toNat)
  case atStart => exact ⟨0, .slice none 0 0, by omega, rfl, Lib.hid (Blk.new w _ _), Lib.hid ⟨rfl, .inl ⟨rfl, rfl⟩⟩, Lib.hid (bel_alloc1 w _)⟩
  case round =>
    obtain ⟨k, v2, hk, rfl, HV, HO, HB⟩ := hrel
    have hwr : w.heap.size < wr.heap.size := HV.out.lt
    by_cases hlt : k < n
    · have hkl : k < l.length := by rw [← hn.out]; exact hlt
      obtain ⟨x, hx1, hx2⟩ := hl.out k hkl
      have cx : wr.cell? ⟨b, k, none⟩ = some x := (HB.out.cell (p := ⟨b, k, none⟩) hb).trans hx1
      have HX2 := Lib.hid (hx2.below HB.out)
      clear hx1 hx2
      obtain ⟨at', hat⟩ : ∃ x, l.getD k (.int 0) = x := ⟨_, rfl⟩
      have HTK := Lib.hid (take_snocA hkl)
      rw [hat] at HX2 HTK
      have hlk : (l.take k).length ≤ 1000 := by rw [List.length_take]; omega
      clear hat
      go_wp2_with fail
      refine wp_region_any (by kernel_rfl) ?_
      change wpAny _ _ _ _ _ _ _ (World.drew _)
      generalize hWD : World.drew _ = W
      have BX := Lib.hid (show Blk W w.heap.size #[.int .i64 3, .int .i64 0, .string ⟨#[]⟩, v2] 84 by rw [← hWD]; exact HV.out)
      have EW := Lib.hid (show Below w.heap.size w W by rw [← hWD]; exact HB.out.drew)
      have OW := Lib.hid (show OwnA W (w.heap.size + 1) v2 (l.take k) by rw [← hWD]; exact HO.out)
      have XW := Lib.hid (show Item W x at' by rw [← hWD]; exact HX2.out.below (Below.refl _ _).drew)
      have hW : w.heap.size < W.heap.size := BX.out.lt
      clear hWD
      have hCD : ∀ u, Ext W u → Ext W u := fun u hu => hu
      refine region_U (D := Ext W) (Ext W) [5, 6, 7] (Ext.refl W) ?_
      refine anyU_takeD (i := 0) (v := .pointer (some ⟨w.heap.size, 3, none⟩)) 15 rfl rfl (by kernel_rfl) (by kernel_rfl) (by kernel_rfl) (fun _ _ _ h => h) (by kernel_rfl) (Ext.stable _) hCD (yieldsU_val rfl (fun u hu => by go_simp)) ?_
      refine anyU_takeD (i := 1) (v := v2) 16 rfl rfl (by kernel_rfl) (by kernel_rfl) (by kernel_rfl) (fun _ _ _ h => h) (by kernel_rfl) (Ext.stable _) hCD (yieldsU_val rfl (fun u hu => by have c := (BX.out.below hu BX.out.lt).cell 3; go_simp)) ?_
      refine anyU_takeD (i := 2) (v := x) 17 rfl rfl (by kernel_rfl) (by kernel_rfl) (by kernel_rfl) (fun _ _ _ h => h) (by kernel_rfl) (Ext.stable _) hCD (yieldsU_val rfl (fun u hu => by rfl)) ?_
      refine anyU_takeD (i := 3) (v := .agg #[.int .i64 at'.kind, .int .i64 at'.num, .string at'.str, .slice none 0 0]) 18 rfl rfl (by kernel_rfl) (by kernel_rfl) (by kernel_rfl) (fun _ _ _ h => h) (by kernel_rfl) (Ext.stable _) hCD (yieldsU_call rfl 70 _ _ rfl #[x] (by simp [Act.eval, Act.put]) (fun u => by go_simp) (fun u hu => value_item x at' u (XW.out.below hu))) ?_
      simp only [Act.put, List.setIfInBounds_toArray, List.set_cons_succ, List.set_cons_zero]
      refine anyU_one 4 3 _ rfl rfl (by kernel_rfl) ?_
      intro u hu
      go_wp2_with fail
      change ∃ C' : World → Prop, _ ∧ _ ∧ _ ∧ anyU _ _ _ _ _ _ 3 _ _ _
      have hb1 : Below u.heap.size u (u.alloc (.cells #[.int .i64 at'.kind, .int .i64 at'.num, .string at'.str, .slice none 0 0] 84)) := bel_alloc1 u _
      have Z1 := Lib.hid (Blk.new u #[.int .i64 at'.kind, .int .i64 at'.num, .string at'.str, .slice none 0 0] 84)
      have E1 := Lib.hid (Ext.trans hu hb1)
      generalize World.alloc u _ = u1 at Z1 E1 hb1 ⊢
      have lt1 : w.heap.size < u.heap.size := Nat.lt_of_lt_of_le hW hu.size
      generalize u.heap.size = bb at Z1 lt1 ⊢
      clear hu hb1
      refine anchorF (fun y => Ext W y ∧ Blk y bb #[.int .i64 at'.kind, .int .i64 at'.num, .string at'.str, .slice none 0 0] 84) (fun y hy => hy.1) ((Ext.stable W).and (fun y z h k => h.below k h.lt)) ⟨E1.out, Z1.out⟩ ?_
      (try simp only [Act.put])
      refine anyU_tail 5 [6, 7] rfl rfl (by decide) (by kernel_rfl) ?_
      intro u2 hu2
      simp only [Act.put, List.filterMap_cons, List.filterMap_nil, List.getElem?_cons_succ, List.getElem?_cons_zero]
      have hzu : w.heap.size + 1 ≤ u2.heap.size := Nat.le_trans hW hu2.1.size
      refine appA rfl (.tmp 16) (.tmp 19) rfl (w.heap.size + 1) v2 (l.take k) rfl (OW.out.below hu2.1) bb at' rfl hu2.2 (by omega) hzu ?_
      intro v3 u3 o3 g3
      have hne : v2.ownBlock ≠ some w.heap.size := by
        intro e
        have := (World.ownsRow.lt OW.out) _ e
        omega
      have B3 := Lib.hid (show Blk u3 w.heap.size #[.int .i64 3, .int .i64 0, .string ⟨#[]⟩, v2] 84 from (g3.block _ (by omega) (fun e => hne e.symm)).trans (BX.out.below hu2.1 BX.out.lt))
      have K3 := Lib.hid (show Below w.heap.size w u3 from EW.out.trans ((Below.mono hu2.1 EW.out.size).trans ⟨g3.os, g3.tape, g3.output, g3.size, fun i hi => g3.block i (by omega) (by intro e; have := (World.ownsRow.lt OW.out) _ e.symm; omega)⟩))
      have O3 := Lib.hid o3
      clear o3 g3 hu2
      obtain ⟨g4, cap4, hv4, _, _, _⟩ := OwnA.slice O3.out (by simp)
      obtain ⟨m4, hm4⟩ : ∃ m4, (l.take k ++ [at']).length = m4 := ⟨_, rfl⟩
      rw [hm4] at hv4
      clear hm4
      subst hv4
      have e3 := B3.out.cell 3
      have f3 := B3.out.frozen 3
      go_wp2_with fail
      refine ⟨⟨k + 1, .slice (some ⟨g4, 0, none⟩) m4 cap4, by omega, by simp, Lib.hid ?_, Lib.hid ?_, Lib.hid ?_⟩, ?_⟩
      · exact B3.out.set 3 _
      · rw [HTK.out]; exact OwnA.set O3.out (by omega)
      · exact K3.out.setCell (p := ⟨w.heap.size, 3, none⟩) (by simp) _
      · simp only [intOf]; omega
    · obtain rfl : k = n := by omega
      have e0 := HV.out.cell 0
      have e1 := HV.out.cell 1
      have e2 := HV.out.cell 2
      have e3 := HV.out.cell 3
      have hlA := HO.out
      rw [List.take_of_length_le (by have := hn.out; omega)] at hlA
      obtain ⟨g, cap, rfl, hg1, hg2, hat⟩ := hlA.slice (by have := hn.out; omega)
      have HAT := Lib.hid hat
      clear hat hlA
      have hll : l.length ≤ 1000000 := by have := hn.out; omega
      go_wp2_with (go_at_call 71; refine (encode_list l g 0 l.length cap _ (Lib.hid rfl) hll hok hg2 HAT hx).mono ?_; rintro e u1 ⟨v1, rfl, o1, k1⟩; have O1 := Lib.hid o1; have K1 := Lib.hid k1; clear o1 k1)
      go_ret
      exact ⟨v1, rfl, own8_mono O1.out (by omega), bel_trans HB.out K1.out⟩
end Go.Proofs.YtpjobllfiimdkaaGreatDoor
