/- Package stamps: encode. Package stamps: the text of a stamp. Package stamps: a stamp in memory. Package stamps: newIssue. -/
import Derived.Test.YtjdkdhpippapmaaGreatDoorCodZ
import Derived.Test.YtjdkdhpippapmaaGreatDoorSigCh
import Derived.Test.YtjdkdhpippapmaaGreatDoorRegU
import Derived.Test.YtjdkdhpippapmaaGreatDoorDigStC
namespace Go.Proofs.YtjdkdhpippapmaaGreatDoor
open Go.RowKit
set_option linter.unusedVariables false
set_option linter.unusedSimpArgs false

set_option maxRecDepth 100000 in
set_option maxHeartbeats 1000000 in
theorem sencode_list (l : List Atom) (b o n cap : Nat) (w : World) (hn : Hid (n = l.length)) (hm : n ≤ 1000000) (hok : Hid (∀ a ∈ l, a.ok)) (hb : b < w.heap.size) (hl : Hid (AtomsAt w b o l)) (hx : Hid (60 + lenA l ≤ 2000000000)) :
    Calls Tryz.prog 66 #[.slice (some ⟨b, o, none⟩) n cap] w fun e w' => ∃ v', e = .returned v' ∧ Own8 w' w.heap.size v' (encL l) ∧ Below w.heap.size w w' := by
  go_enter Tryz.func66, Tryz.ntmps66
  go_wp2_with (go_at_call 23; refine (encode_list l b o n cap _ hn hm hok hb hl hx).mono ?_; rintro e u1 ⟨v', rfl, ho, hb1⟩)
  go_ret
  exact ⟨v', rfl, ho, hb1⟩
end Go.Proofs.YtjdkdhpippapmaaGreatDoor
namespace Go.Proofs.YtjdkdhpippapmaaGreatDoor
open Go.RowKit
set_option linter.unusedVariables false
set_option linter.unusedSimpArgs false

theorem stCell {zs : List Int} (hl : zs.length = 32) (n c s : Int) : ((bv zs ++ [Value.int .i64 n, .int .i64 c, .int .i64 s]).toArray)[32]? = some (.int .i64 n) := by
  rw [List.getElem?_toArray, List.getElem?_append_right (by simp [bv, hl])]
  simp [bv, hl]
theorem stByte {zs : List Int} {n c s : Int} (j : Nat) (hj : j < zs.length) : ((bv zs ++ [Value.int .i64 n, .int .i64 c, .int .i64 s]).toArray)[j]? = some (.int .u8 (zs.getD j 0)) := by
  rw [List.getElem?_toArray, List.getElem?_append_left (by simpa [bv] using hj)]
  simp [bv, hj]
set_option maxRecDepth 100000 in
set_option maxHeartbeats 2000000 in
theorem stext_is (zs : List Int) (n c s : Int) (w : World) (hl : Hid (zs.length = 32)) (hok : Hid (∀ a ∈ [Atom.text zs, .int n], a.ok)) :
    Calls Tryz.prog 31 #[.agg (bv zs ++ [Value.int .i64 n, .int .i64 c, .int .i64 s]).toArray] w fun e w' => ∃ v', e = .returned v' ∧ Own8 w' w.heap.size v' (encL [.text zs, .int n]) ∧ Below w.heap.size w w' := by
  obtain ⟨st, hst⟩ : ∃ st, strB zs = st := ⟨_, rfl⟩
  have HST := Lib.hid hst
  clear hst
  obtain ⟨cs, hcs⟩ : ∃ cs, (bv zs ++ [Value.int .i64 n, .int .i64 c, .int .i64 s]).toArray = cs := ⟨_, rfl⟩
  have C32 := Lib.hid (show cs[32]? = some (.int .i64 n) by rw [← hcs]; exact stCell hl.out n c s)
  have CB := Lib.hid (show ∀ j, j < zs.length → cs[j]? = some (.int .u8 (zs.getD j 0)) by rw [← hcs]; exact fun j hj => stByte j hj)
  rw [hcs]
  clear hcs
  go_enter Tryz.func31, Tryz.ntmps31
  go_upto_region 1 with fail
  refine wp_region_any (by kernel_rfl) ?_
  change wpAny _ _ _ _ _ _ _ (World.drew _)
  generalize hWD : World.drew _ = W
  have BX := Lib.hid (show Blk W w.heap.size cs 63 by rw [← hWD]; exact Blk.new w _ _)
  have EW := Lib.hid (show Below w.heap.size w W by rw [← hWD]; exact (bel_alloc1 w _).drew)
  clear hWD
  have hCD : ∀ u, Ext W u → Ext W u := fun u hu => hu
  have ZW := Lib.hid (show SrcW W (some ⟨w.heap.size, 0, none⟩) 32 32 zs from .inl ⟨hl.out.symm, .inr ⟨w.heap.size, 0, rfl, BX.out.lt, fun j hj => by
    rw [Nat.zero_add, BX.out.cell j, CB.out j hj]⟩⟩)
  refine region_U (D := Ext W) (Ext W) [10, 11] (Ext.refl W) ?_
  refine anyU_takeD (i := 0) (v := .pointer (some ⟨w.heap.size, 0, none⟩)) 3 rfl rfl (by kernel_rfl) (by kernel_rfl) (by kernel_rfl) (fun _ _ _ h => h) (by kernel_rfl) (Ext.stable _) hCD (yieldsU_val rfl (fun u hu => by go_simp)) ?_
  refine anyU_takeD (i := 1) (v := .pointer (some ⟨w.heap.size, 0, none⟩)) 4 rfl rfl (by kernel_rfl) (by kernel_rfl) (by kernel_rfl) (fun _ _ _ h => h) (by kernel_rfl) (Ext.stable _) hCD (yieldsU_val rfl (fun u hu => by go_simp)) ?_
  refine anyU_takeD (i := 2) (v := .slice (some ⟨w.heap.size, 0, none⟩) 32 32) 5 rfl rfl (by kernel_rfl) (by kernel_rfl) (by kernel_rfl) (fun _ _ _ h => h) (by kernel_rfl) (Ext.stable _) hCD (yieldsU_val rfl (fun u hu => by go_simp)) ?_
  refine anyU_takeD (i := 3) (v := .string st) 6 rfl rfl (by kernel_rfl) (by kernel_rfl) (by kernel_rfl) (fun _ _ _ h => h) (by kernel_rfl) (Ext.stable _) hCD (yieldsU_val rfl (fun u hu => by have hc := conv_srcW (ZW.out.below hu); rw [HST.out] at hc; go_simp)) ?_
  refine anyU_takeD (i := 4) (v := .agg #[.int .i64 2, .int .i64 0, .string st, .slice none 0 0]) 7 rfl rfl (by kernel_rfl) (by kernel_rfl) (by kernel_rfl) (fun _ _ _ h => h) (by kernel_rfl) (Ext.stable _) hCD (yieldsU_val rfl (fun u hu => by go_simp)) ?_
  simp only [Act.put, List.setIfInBounds_toArray, List.set_cons_succ, List.set_cons_zero]
  refine anyU_takeD (i := 5) (v := .pointer (some ⟨w.heap.size, 0, none⟩)) 8 rfl rfl (by kernel_rfl) (by kernel_rfl) (by kernel_rfl) (fun _ _ _ h => h) (by kernel_rfl) (Ext.stable _) hCD (yieldsU_val rfl (fun u hu => by go_simp)) ?_
  refine anyU_takeD (i := 6) (v := .pointer (some ⟨w.heap.size, 32, none⟩)) 9 rfl rfl (by kernel_rfl) (by kernel_rfl) (by kernel_rfl) (fun _ _ _ h => h) (by kernel_rfl) (Ext.stable _) hCD (yieldsU_val rfl (fun u hu => by go_simp)) ?_
  refine anyU_takeD (i := 7) (v := .int .i64 n) 10 rfl rfl (by kernel_rfl) (by kernel_rfl) (by kernel_rfl) (fun _ _ _ h => h) (by kernel_rfl) (Ext.stable _) hCD (yieldsU_val rfl (fun u hu => by have c := (BX.out.below hu BX.out.lt).cell 32; rw [C32.out] at c; go_simp)) ?_
  refine anyU_takeD (i := 8) (v := .agg #[.int .i64 1, .int .i64 n, .string ⟨#[]⟩, .slice none 0 0]) 11 rfl rfl (by kernel_rfl) (by kernel_rfl) (by kernel_rfl) (fun _ _ _ h => h) (by kernel_rfl) (Ext.stable _) hCD (yieldsU_val rfl (fun u hu => by go_simp)) ?_
  simp only [Act.put, List.setIfInBounds_toArray, List.set_cons_succ, List.set_cons_zero]
  refine anyU_one 9 2 _ rfl rfl (by kernel_rfl) ?_
  intro u1 hu
  go_wp2_with fail
  change ∃ C' : World → Prop, _ ∧ _ ∧ _ ∧ anyU _ _ _ _ _ _ 2 _ _ _
  have Z1 := Lib.hid (Blk.new u1 #[.int .i64 2, .int .i64 0, .string st, .slice none 0 0, .int .i64 1, .int .i64 n, .string ⟨#[]⟩, .slice none 0 0] 53)
  have E1 := Lib.hid (Ext.trans hu (bel_alloc1 u1 (.cells #[.int .i64 2, .int .i64 0, .string st, .slice none 0 0, .int .i64 1, .int .i64 n, .string ⟨#[]⟩, .slice none 0 0] 53)))
  generalize World.alloc u1 _ = u2 at Z1 E1 ⊢
  generalize u1.heap.size = bb at Z1 ⊢
  clear hu
  refine anchorF (fun z => Ext W z ∧ Blk z bb #[.int .i64 2, .int .i64 0, .string st, .slice none 0 0, .int .i64 1, .int .i64 n, .string ⟨#[]⟩, .slice none 0 0] 53) (fun z hz => hz.1) ((Ext.stable W).and (fun y z h k => h.below k h.lt)) ⟨E1.out, Z1.out⟩ ?_
  (try simp only [Act.put])
  refine anyU_tail 10 [11] rfl rfl (by decide) (by kernel_rfl) ?_
  intro u3 hu3
  simp only [Act.put, List.filterMap_cons, List.filterMap_nil, List.getElem?_cons_succ, List.getElem?_cons_zero]
  have X3 := Lib.hid hu3.2
  have B3 := Lib.hid (bel_trans EW.out hu3.1)
  clear hu3
  have HAT := Lib.hid (show AtomsAt u3 bb 0 [.text zs, .int n] from by
    intro k hk
    have hk' : k < 2 := hk
    have hh := X3.out
    rw [← HST.out] at hh
    rcases (by omega : k = 0 ∨ k = 1) with rfl | rfl
    · exact ⟨hh.cell 0, hh.cell 1, hh.cell 2, hh.cell 3⟩
    · exact ⟨hh.cell 4, hh.cell 5, hh.cell 6, hh.cell 7⟩)
  have HLN := Lib.hid (show 60 + lenA [.text zs, .int n] ≤ 2000000000 by
    have := hl.out
    simp [lenA, Atom.sz]; omega)
  go_wp2_with (go_at_call 66; refine (sencode_list [.text zs, .int n] bb 0 2 2 u3 (Lib.hid rfl) (by omega) hok X3.out.lt HAT HLN).mono ?_; rintro e u4 ⟨v4, rfl, o4, hb⟩; have O4 := Lib.hid o4; have B4 := Lib.hid (bel_trans B3.out hb); clear o4 hb)
  go_ret
  first | exact ⟨v4, rfl, own8_mono O4.out B3.out.size, B4.out⟩ | exact ⟨v4, rfl, World.ownsRow.mono O4.out B3.out.size, B4.out⟩

def valB (n : Int) : Bool := decide (0 ≤ n) && decide (n ≤ 1099511627776)
set_option maxHeartbeats 1000000 in
theorem shas_any (zs : List Int) (n c s : Int) (w : World) (hl : Hid (zs.length = 32)) :
    Calls Tryz.prog 30 #[.agg (bv zs ++ [Value.int .i64 n, .int .i64 c, .int .i64 s]).toArray] w fun e w' => e = .returned (.bool (valB n)) ∧ Below w.heap.size w w' := by
  obtain ⟨cs, hcs⟩ : ∃ cs, (bv zs ++ [Value.int .i64 n, .int .i64 c, .int .i64 s]).toArray = cs := ⟨_, rfl⟩
  have C32 := Lib.hid (show cs[32]? = some (.int .i64 n) by rw [← hcs]; exact stCell hl.out n c s)
  rw [hcs]
  clear hcs
  go_enter Tryz.func30, Tryz.ntmps30
  have BX := Lib.hid (Blk.new w cs 63)
  have BB := Lib.hid (bel_alloc1 w (.cells cs 63))
  have cn : (w.alloc (.cells cs 63)).cell? ⟨w.heap.size, 32, none⟩ = some (.int .i64 n) := by rw [BX.out.cell 32]; exact C32.out
  have lb := BX.out.lt
  have hv : valB n = (decide (0 ≤ n) && decide (n ≤ 1099511627776)) := rfl
  rw [hv]
  clear hv
  by_cases h0 : 0 ≤ n
  case pos =>
    by_cases h1 : n ≤ 1099511627776
    case pos =>
      rw [show (decide (0 ≤ n) && decide (n ≤ 1099511627776)) = true by simp [h0, h1]]
      go_wp2_with fail
      go_ret
      exact ⟨rfl, BB.out⟩
    case neg =>
      rw [show (decide (0 ≤ n) && decide (n ≤ 1099511627776)) = false by simp [h1]]
      go_wp2_with fail
      go_ret
      exact ⟨rfl, BB.out⟩
  case neg =>
    rw [show (decide (0 ≤ n) && decide (n ≤ 1099511627776)) = false by simp [h0]]
    go_wp2_with fail
    go_ret
    exact ⟨rfl, BB.out⟩
end Go.Proofs.YtjdkdhpippapmaaGreatDoor
namespace Go.Proofs.YtjdkdhpippapmaaGreatDoor
open Go.RowKit
set_option linter.unusedVariables false
set_option linter.unusedSimpArgs false

/-- the cells of a stamp -/
def stv (zs : List Int) (n c s : Int) : List Value := bv zs ++ [.int .i64 n, .int .i64 c, .int .i64 s]
/-- the cells of a stamp that is being issued -/
def isv (zs : List Int) (n c s key r u v : Int) : List Value := stv zs n c s ++ [.int .i64 key, .int .i64 r, .int .i64 u, .int .i64 v]
theorem stv_len {zs : List Int} (h : zs.length = 32) (n c s : Int) : (stv zs n c s).length = 35 := by simp [stv, bv, h]
theorem isv_len {zs : List Int} (h : zs.length = 32) (n c s key r u v : Int) : (isv zs n c s key r u v).length = 39 := by simp [isv, stv_len h]
theorem stv_one (zs : List Int) (n c s : Int) : ∀ v ∈ stv zs n c s, v.oneCell' = true := by
  intro v hv; simp only [stv, List.mem_append, List.mem_cons, List.not_mem_nil, or_false] at hv
  rcases hv with h | rfl | rfl | rfl
  · exact bv_one zs v h
  all_goals rfl
theorem isv_one (zs : List Int) (n c s key r u v : Int) : ∀ x ∈ isv zs n c s key r u v, x.oneCell' = true := by
  intro x hv; simp only [isv, List.mem_append, List.mem_cons, List.not_mem_nil, or_false] at hv
  rcases hv with h | rfl | rfl | rfl | rfl
  · exact stv_one zs n c s x h
  all_goals rfl
theorem list32 (zs : List Int) (h : zs.length = 32) : ∃ z0 z1 z2 z3 z4 z5 z6 z7 z8 z9 z10 z11 z12 z13 z14 z15 z16 z17 z18 z19 z20 z21 z22 z23 z24 z25 z26 z27 z28 z29 z30 z31 : Int, zs = [z0, z1, z2, z3, z4, z5, z6, z7, z8, z9, z10, z11, z12, z13, z14, z15, z16, z17, z18, z19, z20, z21, z22, z23, z24, z25, z26, z27, z28, z29, z30, z31] := by
  match zs, h with
  | [z0, z1, z2, z3, z4, z5, z6, z7, z8, z9, z10, z11, z12, z13, z14, z15, z16, z17, z18, z19, z20, z21, z22, z23, z24, z25, z26, z27, z28, z29, z30, z31], _ => exact ⟨z0, z1, z2, z3, z4, z5, z6, z7, z8, z9, z10, z11, z12, z13, z14, z15, z16, z17, z18, z19, z20, z21, z22, z23, z24, z25, z26, z27, z28, z29, z30, z31, rfl⟩
set_option maxRecDepth 100000 in
theorem built_st {zs : List Int} (h : zs.length = 32) (n c s : Int) : Tryz.prog.built 27 [(0, .agg (bv zs).toArray), (1, .int .i64 n), (2, .agg #[.int .i64 c, .int .i64 s])] = some (stv zs n c s).toArray := by
  obtain ⟨z0, z1, z2, z3, z4, z5, z6, z7, z8, z9, z10, z11, z12, z13, z14, z15, z16, z17, z18, z19, z20, z21, z22, z23, z24, z25, z26, z27, z28, z29, z30, z31, rfl⟩ := list32 zs h
  kernel_rfl
set_option maxRecDepth 100000 in
theorem built_st2 {zs : List Int} (h : zs.length = 32) (n : Int) : Tryz.prog.built 27 [(0, .agg (bv zs).toArray), (1, .int .i64 n)] = some (stv zs n 0 0).toArray := by
  obtain ⟨z0, z1, z2, z3, z4, z5, z6, z7, z8, z9, z10, z11, z12, z13, z14, z15, z16, z17, z18, z19, z20, z21, z22, z23, z24, z25, z26, z27, z28, z29, z30, z31, rfl⟩ := list32 zs h
  kernel_rfl
set_option maxRecDepth 100000 in
theorem built_sp {zs : List Int} (h : zs.length = 32) (n c s : Int) : Tryz.prog.built 63 [(0, .agg (stv zs n c s).toArray)] = some (stv zs n c s).toArray := by
  obtain ⟨z0, z1, z2, z3, z4, z5, z6, z7, z8, z9, z10, z11, z12, z13, z14, z15, z16, z17, z18, z19, z20, z21, z22, z23, z24, z25, z26, z27, z28, z29, z30, z31, rfl⟩ := list32 zs h
  kernel_rfl
set_option maxRecDepth 100000 in
theorem built_is {zs : List Int} (h : zs.length = 32) (n c s key r u v : Int) : Tryz.prog.built 65 [(0, .agg (stv zs n c s).toArray), (1, .int .i64 key), (2, .int .i64 r), (3, .int .i64 u), (4, .int .i64 v)] = some (isv zs n c s key r u v).toArray := by
  obtain ⟨z0, z1, z2, z3, z4, z5, z6, z7, z8, z9, z10, z11, z12, z13, z14, z15, z16, z17, z18, z19, z20, z21, z22, z23, z24, z25, z26, z27, z28, z29, z30, z31, rfl⟩ := list32 zs h
  kernel_rfl
theorem built_s0 : Tryz.prog.built 27 [] = some (stv (List.replicate 32 0) 0 0 0).toArray := by kernel_rfl
theorem list_val {ops : Array Oper} {Q : Exit → Act → World → Prop} {o : Oper} {rest : List Oper} {a : Act} {w : World} (hw : Region.wanted o (yielded ops a.tmps) = true) (v : Value) (he : (execOp a.eval o).run Tryz.prog w = .ok (.value v) w)
    (h : wpList Tryz.prog ops Q rest (a.put o.dst v) w) : wpList Tryz.prog ops Q (o :: rest) a w := by
  refine wpList_step fun K hK => ?_
  rw [if_pos hw]
  unfold Oper.wp
  simp only [he]
  exact hK _ _ h
theorem list_build {ops : Array Oper} {Q : Exit → Act → World → Prop} {o : Oper} {rest : List Oper} {a : Act} {w : World} (hw : Region.wanted o (yielded ops a.tmps) = true) (t : TypeId) (parts : Array (Nat × Operand)) (ho : o.op = .build t parts)
    (pv : List (Nat × Value)) (hp0 : (parts.toList.map fun (i, x) => (i, a.eval x)) = pv) (cs : Array Value) (hb : Tryz.prog.built t pv = some cs)
    (h : wpList Tryz.prog ops Q rest (a.put o.dst (.agg cs)) w) : wpList Tryz.prog ops Q (o :: rest) a w := by
  have hp : (parts.map fun (i, x) => (i, a.eval x)).toList = pv := by rw [Array.toList_map]; exact hp0
  refine wpList_step fun K hK => ?_
  rw [if_pos hw]
  refine wp_build t parts ho (by rw [hp, hb]; rfl) ?_
  rw [hp, hb]
  exact hK _ _ h
def SBlk (w : World) (b : Nat) (t : TypeId) (zs : List Int) (n c s : Int) : Prop := Blk w b (stv zs n c s).toArray t ∧ zs.length = 32
theorem SBlk.lt {w : World} {b : Nat} {t : TypeId} {zs : List Int} {n c s : Int} (h : SBlk w b t zs n c s) : b < w.heap.size := h.1.lt
theorem SBlk.bel {w w' : World} {b : Nat} {t : TypeId} {zs : List Int} {n c s : Int} (h : SBlk w b t zs n c s) (k : Below w.heap.size w w') : SBlk w' b t zs n c s := ⟨h.1.below k h.lt, h.2⟩
theorem SBlk.wrote {w w' : World} {b d : Nat} {t : TypeId} {zs : List Int} {n c s : Int} (h : SBlk w b t zs n c s) (k : Wrote w w' d) (hne : b ≠ d) : SBlk w' b t zs n c s := ⟨(k.block b hne).trans h.1, h.2⟩
theorem SBlk.alloc {w : World} {b : Nat} {t : TypeId} {zs : List Int} {n c s : Int} (h : SBlk w b t zs n c s) (o : Obj) : SBlk (w.alloc o) b t zs n c s := ⟨h.1.alloc o, h.2⟩
theorem SBlk.box (w : World) (t : TypeId) {zs : List Int} (n c s : Int) (h : zs.length = 32) : SBlk (w.alloc (.cells (stv zs n c s).toArray t)) w.heap.size t zs n c s := ⟨Blk.new w _ _, h⟩
theorem SBlk.new (w : World) (t : TypeId) : SBlk (w.alloc (.cells #[.int .u8 0, .int .u8 0, .int .u8 0, .int .u8 0, .int .u8 0, .int .u8 0, .int .u8 0, .int .u8 0, .int .u8 0, .int .u8 0, .int .u8 0, .int .u8 0, .int .u8 0, .int .u8 0, .int .u8 0, .int .u8 0, .int .u8 0, .int .u8 0, .int .u8 0, .int .u8 0, .int .u8 0, .int .u8 0, .int .u8 0, .int .u8 0, .int .u8 0, .int .u8 0, .int .u8 0, .int .u8 0, .int .u8 0, .int .u8 0, .int .u8 0, .int .u8 0, .int .i64 0, .int .i64 0, .int .i64 0] t)) w.heap.size t (List.replicate 32 0) 0 0 0 := ⟨Blk.new w _ _, rfl⟩
theorem SBlk.cell {w : World} {b : Nat} {t : TypeId} {zs : List Int} {n c s : Int} (h : SBlk w b t zs n c s) : w.cell? ⟨b, 32, none⟩ = some (.int .i64 n) := (h.1.cell 32).trans (stCell h.2 n c s)
theorem SBlk.bytes {w : World} {b : Nat} {t : TypeId} {zs : List Int} {n c s : Int} (h : SBlk w b t zs n c s) : BytesAt w b 0 zs := fun j hj => by
  rw [Nat.zero_add]; exact (h.1.cell j).trans (stByte j hj)
theorem SBlk.sig {w : World} {b : Nat} {t : TypeId} {zs : List Int} {n c s : Int} (h : SBlk w b t zs n c s) : w.cell? ⟨b, 33, none⟩ = some (.int .i64 c) ∧ w.cell? ⟨b, 34, none⟩ = some (.int .i64 s) := by
  have hz := h.2
  constructor <;> · rw [h.1.cell, List.getElem?_toArray, stv, List.getElem?_append_right (by simp [bv, hz])]; simp [bv, hz]
theorem all_st (zs : List Int) (n c s : Int) : (stv zs n c s).toArray.all (·.oneCell') = true := all_oneCell_toArray (stv_one zs n c s)
theorem szApi {zs : List Int} (h : zs.length = 32) (n c s : Int) : (Tryz.prog.info? 27).map (·.size) = some (stv zs n c s).length := by
  rw [stv_len h]; kernel_rfl
theorem list_loadApi {ops : Array Oper} {Q : Exit → Act → World → Prop} {o : Oper} {rest : List Oper} {a : Act} {w : World} (hw : Region.wanted o (yielded ops a.tmps) = true) (x : Operand) (ho : o.op = .load 27 x) (b off : Nat) (hx : a.eval x = .pointer (some ⟨b, off, none⟩))
    (zs : List Int) (n c s : Int) (hl : zs.length = 32) (hb : w.rangeAt b off (stv zs n c s)) (h : wpList Tryz.prog ops Q rest (a.put o.dst (.agg (stv zs n c s).toArray)) w) : wpList Tryz.prog ops Q (o :: rest) a w :=
  list_load hw 27 x ho b off hx (stv zs n c s) _ hb Tryz.underlying27 rfl (szApi hl n c s) h
theorem list_storeApi {ops : Array Oper} {rest : List Oper} {o : Oper} {a : Act} {w : World} {Q : Exit → Act → World → Prop} (hgd : o.guard = none) (x y : Operand) (ho : o.op = .store 27 x y)
    (b : Nat) (hx : a.eval x = .pointer (some ⟨b, 0, none⟩)) (ds : List Int) (m e f : Int) (hy : a.eval y = .agg (stv ds m e f).toArray) (ld : ds.length = 32) (t : TypeId) (zs : List Int) (n c s : Int) (hb : SBlk w b t zs n c s)
    (h : ∀ w', SBlk w' b t ds m e f → Wrote w w' b → wpList Tryz.prog ops Q rest (a.put o.dst undef) w') : wpList Tryz.prog ops Q (o :: rest) a w := by
  refine wpList_store_mid hgd 27 x y ho b 0 (stv ds m e f).toArray hx hy ?_ (by rw [List.size_toArray]; exact szApi ld m e f) (all_st ds m e f) ?_
  · have := hb.1.there
    rw [stv_len hb.2] at this
    rw [List.size_toArray, stv_len ld]
    exact this
  · exact h _ ⟨hb.1.fill (by rw [stv_len hb.2, stv_len ld]), ld⟩ (wrote_setCells b _ 0 w)
theorem yields_loadApi {ops : Array Oper} {C : World → Prop} {o : Oper} {a : Act} (hw : Region.wanted o (yielded ops a.tmps) = true) (x : Operand) (ho : o.op = .load 27 x) (b off : Nat) (hx : a.eval x = .pointer (some ⟨b, off, none⟩))
    (zs : List Int) (n c s : Int) (hl : zs.length = 32) (hc : ∀ u, C u → u.rangeAt b off (stv zs n c s)) : YieldsC Tryz.prog ops C o (.agg (stv zs n c s).toArray) a :=
  yields_load hw 27 x ho b off hx (stv zs n c s) _ hc Tryz.underlying27 rfl (szApi hl n c s)
theorem szOwn {zs : List Int} (h : zs.length = 32) (n c s : Int) : (Tryz.prog.info? 63).map (·.size) = some (stv zs n c s).length := by
  rw [stv_len h]; kernel_rfl
theorem list_loadOwn {ops : Array Oper} {Q : Exit → Act → World → Prop} {o : Oper} {rest : List Oper} {a : Act} {w : World} (hw : Region.wanted o (yielded ops a.tmps) = true) (x : Operand) (ho : o.op = .load 63 x) (b off : Nat) (hx : a.eval x = .pointer (some ⟨b, off, none⟩))
    (zs : List Int) (n c s : Int) (hl : zs.length = 32) (hb : w.rangeAt b off (stv zs n c s)) (h : wpList Tryz.prog ops Q rest (a.put o.dst (.agg (stv zs n c s).toArray)) w) : wpList Tryz.prog ops Q (o :: rest) a w :=
  list_load hw 63 x ho b off hx (stv zs n c s) _ hb Tryz.underlying63 rfl (szOwn hl n c s) h
theorem list_storeOwn {ops : Array Oper} {rest : List Oper} {o : Oper} {a : Act} {w : World} {Q : Exit → Act → World → Prop} (hgd : o.guard = none) (x y : Operand) (ho : o.op = .store 63 x y)
    (b : Nat) (hx : a.eval x = .pointer (some ⟨b, 0, none⟩)) (ds : List Int) (m e f : Int) (hy : a.eval y = .agg (stv ds m e f).toArray) (ld : ds.length = 32) (t : TypeId) (zs : List Int) (n c s : Int) (hb : SBlk w b t zs n c s)
    (h : ∀ w', SBlk w' b t ds m e f → Wrote w w' b → wpList Tryz.prog ops Q rest (a.put o.dst undef) w') : wpList Tryz.prog ops Q (o :: rest) a w := by
  refine wpList_store_mid hgd 63 x y ho b 0 (stv ds m e f).toArray hx hy ?_ (by rw [List.size_toArray]; exact szOwn ld m e f) (all_st ds m e f) ?_
  · have := hb.1.there
    rw [stv_len hb.2] at this
    rw [List.size_toArray, stv_len ld]
    exact this
  · exact h _ ⟨hb.1.fill (by rw [stv_len hb.2, stv_len ld]), ld⟩ (wrote_setCells b _ 0 w)
theorem yields_loadOwn {ops : Array Oper} {C : World → Prop} {o : Oper} {a : Act} (hw : Region.wanted o (yielded ops a.tmps) = true) (x : Operand) (ho : o.op = .load 63 x) (b off : Nat) (hx : a.eval x = .pointer (some ⟨b, off, none⟩))
    (zs : List Int) (n c s : Int) (hl : zs.length = 32) (hc : ∀ u, C u → u.rangeAt b off (stv zs n c s)) : YieldsC Tryz.prog ops C o (.agg (stv zs n c s).toArray) a :=
  yields_load hw 63 x ho b off hx (stv zs n c s) _ hc Tryz.underlying63 rfl (szOwn hl n c s)
theorem results_cell_tmp {P : Program} {fn : Func} {p q : Tmp} {ty : TypeId} {a : Addr} {v : Value} {w : World} (h : fn.results = #[.cell p ty, .tmp q]) (tmps : Array Value) (hp : tmps.getD p undef = .pointer (some a))
    (hl : (loadVar ty a).run P w = .ok v w) : (results fn tmps).run P w = .ok (.tuple #[v, tmps.getD q undef]) w := by
  have hp' : tmps[p]?.getD undef = .pointer (some a) := by simpa using hp
  simp only [results, h]
  simp [Sem.run_bind, Result.andThen, hp', asAddr, hl]
theorem load_st {w : World} {b : Nat} {zs : List Int} {n c s : Int} (h : SBlk w b 27 zs n c s) : (loadVar 27 ⟨b, 0, none⟩).run Tryz.prog w = .ok (.agg (stv zs n c s).toArray) w :=
  run_loadVar_mid w b 0 27 (stv zs n c s) _ h.1.range Tryz.underlying27 rfl (szApi h.2 n c s)
theorem all_is (zs : List Int) (n c s key r u v : Int) : (isv zs n c s key r u v).toArray.all (·.oneCell') = true := all_oneCell_toArray (isv_one zs n c s key r u v)
theorem szIss {zs : List Int} (h : zs.length = 32) (n c s key r u v : Int) : (Tryz.prog.info? 65).map (·.size) = some (isv zs n c s key r u v).length := by
  rw [isv_len h]; kernel_rfl
def IBlk (w : World) (b : Nat) (zs : List Int) (n c s key r u v : Int) : Prop := Blk w b (isv zs n c s key r u v).toArray 65 ∧ zs.length = 32
theorem IBlk.lt {w : World} {b : Nat} {zs : List Int} {n c s key r u v : Int} (h : IBlk w b zs n c s key r u v) : b < w.heap.size := h.1.lt
theorem IBlk.bel {w w' : World} {b : Nat} {zs : List Int} {n c s key r u v : Int} (h : IBlk w b zs n c s key r u v) (k : Below w.heap.size w w') : IBlk w' b zs n c s key r u v := ⟨h.1.below k h.lt, h.2⟩
theorem IBlk.new (w : World) : IBlk (w.alloc (.cells #[.int .u8 0, .int .u8 0, .int .u8 0, .int .u8 0, .int .u8 0, .int .u8 0, .int .u8 0, .int .u8 0, .int .u8 0, .int .u8 0, .int .u8 0, .int .u8 0, .int .u8 0, .int .u8 0, .int .u8 0, .int .u8 0, .int .u8 0, .int .u8 0, .int .u8 0, .int .u8 0, .int .u8 0, .int .u8 0, .int .u8 0, .int .u8 0, .int .u8 0, .int .u8 0, .int .u8 0, .int .u8 0, .int .u8 0, .int .u8 0, .int .u8 0, .int .u8 0, .int .i64 0, .int .i64 0, .int .i64 0, .int .i64 0, .int .i64 0, .int .i64 0, .int .i64 0] 65)) w.heap.size (List.replicate 32 0) 0 0 0 0 0 0 0 := ⟨Blk.new w _ _, rfl⟩
theorem list_storeIss {ops : Array Oper} {rest : List Oper} {o : Oper} {a : Act} {w : World} {Q : Exit → Act → World → Prop} (hgd : o.guard = none) (x y : Operand) (ho : o.op = .store 65 x y)
    (b : Nat) (hx : a.eval x = .pointer (some ⟨b, 0, none⟩)) (ds : List Int) (n c s key r u v : Int) (hy : a.eval y = .agg (isv ds n c s key r u v).toArray) (ld : ds.length = 32) (hb : IBlk w b (List.replicate 32 0) 0 0 0 0 0 0 0)
    (h : ∀ w', IBlk w' b ds n c s key r u v → Wrote w w' b → wpList Tryz.prog ops Q rest (a.put o.dst undef) w') : wpList Tryz.prog ops Q (o :: rest) a w := by
  refine wpList_store_mid hgd 65 x y ho b 0 (isv ds n c s key r u v).toArray hx hy ?_ (by rw [List.size_toArray]; exact szIss ld n c s key r u v) (all_is ds n c s key r u v) ?_
  · have := hb.1.there
    rw [isv_len hb.2] at this
    rw [List.size_toArray, isv_len ld]
    exact this
  · exact h _ ⟨hb.1.fill (by rw [isv_len hb.2, isv_len ld]), ld⟩ (wrote_setCells b _ 0 w)
theorem load_iss {w : World} {b : Nat} {zs : List Int} {n c s key r u v : Int} (h : IBlk w b zs n c s key r u v) : (loadVar 65 ⟨b, 0, none⟩).run Tryz.prog w = .ok (.agg (isv zs n c s key r u v).toArray) w :=
  run_loadVar_mid w b 0 65 (isv zs n c s key r u v) _ h.1.range Tryz.underlying65 rfl (szIss h.2 n c s key r u v)
theorem IBlk.stamp {w : World} {b : Nat} {zs : List Int} {n c s key r u v : Int} (h : IBlk w b zs n c s key r u v) : w.rangeAt b 0 (stv zs n c s) := fun j x hx => by
  have hj : j < (stv zs n c s).length := (List.getElem?_eq_some_iff.1 hx).1
  refine h.1.range j x ?_
  unfold isv
  rw [List.getElem?_append_left hj]
  exact hx
theorem IBlk.num {w : World} {b : Nat} {zs : List Int} {n c s key r u v : Int} (h : IBlk w b zs n c s key r u v) : w.cell? ⟨b, 35, none⟩ = some (.int .i64 key) ∧ w.cell? ⟨b, 36, none⟩ = some (.int .i64 r) ∧ w.cell? ⟨b, 37, none⟩ = some (.int .i64 u) ∧ w.cell? ⟨b, 38, none⟩ = some (.int .i64 v) := by
  have hz := h.2
  refine ⟨?_, ?_, ?_, ?_⟩ <;> · rw [h.1.cell, List.getElem?_toArray, isv, List.getElem?_append_right (by simp [stv_len hz])]; simp [stv_len hz]
end Go.Proofs.YtjdkdhpippapmaaGreatDoor
namespace Go.Proofs.YtjdkdhpippapmaaGreatDoor
open Go.RowKit
set_option linter.unusedVariables false
set_option linter.unusedSimpArgs false

set_option maxRecDepth 100000 in
set_option maxHeartbeats 2000000 in
theorem snew_is (key r : Int) (zs : List Int) (n u v : Int) (w : World) (hl : Hid (zs.length = 32)) :
    Calls Tryz.prog 29 #[.int .i64 key, .int .i64 r, .agg (bv zs).toArray, .int .i64 n, .int .i64 u, .int .i64 v] w fun e w' => e = .returned (.agg (isv zs n 0 0 key r u v).toArray) ∧ Below w.heap.size w w' := by
  go_enter Tryz.func29, Tryz.ntmps29
  go_upto_region 1 with fail
  go_step
  refine list_loadD (by rfl) (.tmp 8) rfl w.heap.size rfl zs ((Dg.box w hl.out).alloc _) ?_
  simp only [Act.put, List.setIfInBounds_toArray, List.set_cons_succ, List.set_cons_zero]
  refine list_val (by rfl) (.int .i64 n) (by go_simp) ?_
  simp only [Act.put, List.setIfInBounds_toArray, List.set_cons_succ, List.set_cons_zero]
  refine list_build (by rfl) 27 _ rfl [(0, .agg (bv zs).toArray), (1, .int .i64 n)] (by rfl) _ (built_st2 hl.out n) ?_
  simp only [Act.put, List.setIfInBounds_toArray, List.set_cons_succ, List.set_cons_zero]
  refine list_build (by rfl) 63 _ rfl [(0, .agg (stv zs n 0 0).toArray)] (by rfl) _ (built_sp hl.out n 0 0) ?_
  simp only [Act.put, List.setIfInBounds_toArray, List.set_cons_succ, List.set_cons_zero]
  refine list_val (by rfl) (.int .i64 key) (by go_simp) ?_
  simp only [Act.put, List.setIfInBounds_toArray, List.set_cons_succ, List.set_cons_zero]
  refine list_val (by rfl) (.int .i64 r) (by go_simp) ?_
  simp only [Act.put, List.setIfInBounds_toArray, List.set_cons_succ, List.set_cons_zero]
  refine list_val (by rfl) (.int .i64 u) (by go_simp) ?_
  simp only [Act.put, List.setIfInBounds_toArray, List.set_cons_succ, List.set_cons_zero]
  refine list_val (by rfl) (.int .i64 v) (by go_simp) ?_
  simp only [Act.put, List.setIfInBounds_toArray, List.set_cons_succ, List.set_cons_zero]
  refine list_build (by rfl) 65 _ rfl [(0, .agg (stv zs n 0 0).toArray), (1, .int .i64 key), (2, .int .i64 r), (3, .int .i64 u), (4, .int .i64 v)] (by rfl) _ (built_is hl.out n 0 0 key r u v) ?_
  simp only [Act.put, List.setIfInBounds_toArray, List.set_cons_succ, List.set_cons_zero]
  refine list_storeIss rfl (.tmp 12) (.tmp 21) rfl (w.heap.size + 1) rfl zs n 0 0 key r u v rfl hl.out (by have := IBlk.new (w.alloc (.cells (bv zs).toArray 23)); simpa using this) ?_
  intro w1 q1 k1
  have Q1 := Lib.hid q1
  have B1 := Lib.hid (show Below w.heap.size w w1 from ((bel_alloc1 w _).alloc (by simp) _).trans (k1.below (by omega)))
  clear q1 k1
  go_wp2_with fail
  refine bodyPost_ret (v := .agg (isv zs n 0 0 key r u v).toArray) (results_cell1 (a := ⟨w.heap.size + 1, 0, none⟩) Tryz.results29 _ rfl (load_iss Q1.out)) rfl ⟨rfl, B1.out⟩
end Go.Proofs.YtjdkdhpippapmaaGreatDoor
