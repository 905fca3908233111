/- A text written: codec.writeText. -/
import Derived.Test.YthhlpkppcbillaaGreatDoorCodNum
import Derived.Test.YthhlpkppcbillaaGreatDoorCodChk
import Derived.Test.YthhlpkppcbillaaGreatDoorRegU
import Derived.Test.YthhlpkppcbillaaGreatDoorDigTag
import Derived.Lib.AppendStr
namespace Go.Proofs.YthhlpkppcbillaaGreatDoor
open Go.RowKit
set_option linter.unusedVariables false
set_option linter.unusedSimpArgs false

theorem strCells_bv (s : ByteArray) : Lib.strCells s = bv (strL s) := by
  unfold Lib.strCells bv strL
  rw [List.map_map]; rfl
theorem appS8 {ops : Array Oper} {rest : List Oper} {o : Oper} {a : Act} {w : World} {Q : Exit → Act → World → Prop} (hgd : o.guard = none) (s x : Operand)
    (ho : o.op = .call { callee := .builtin .append, args := #[s, x], argTypes := #[22, 9] }) (B : Nat) (v : Value) (xs : List Int) (hs : a.eval s = v) (hown : Own8 w B v xs)
    (st : ByteArray) (hx : a.eval x = .string st) (hlen : xs.length + st.size ≤ 2000000000) (hB : B ≤ w.heap.size)
    (h : ∀ v' w', Own8 w' B v' (xs ++ strL st) → w.grownBy w' v.ownBlock → wpList Tryz.prog ops Q rest (a.put o.dst v') w') : wpList Tryz.prog ops Q (o :: rest) a w := by
  obtain ⟨i0, hi, hz0, hz1, hz2⟩ := info_parts info8
  refine Lib.wpList_append_own_string _ hgd s x 22 9 ho B 5 i0 Tryz.underlying22 Tryz.underlying9 hi hz0 hz1 hz2 v xs.length (bv xs) hs hown st hx (by unfold maxLen; omega) (by omega) hB ?_
  intro v' w' h1 h2 _
  refine h v' w' ?_ h2
  unfold Own8
  rw [List.length_append, bv, List.map_append, strL_len]
  rw [strCells_bv] at h1
  exact h1
theorem Kp.bel {B : Nat} {w u u' : World} (h : Kp B w u) (hB : B ≤ w.heap.size) (k : Below u.heap.size u u') : Kp B w u' :=
  ⟨h.1.trans (k.mono (Nat.le_trans hB h.1.size)), fun i c t n b => (h.2 i c t n b).below k (h.2 i c t n b).lt⟩
theorem kp_of_bel {B : Nat} {w u : World} (hB : B ≤ w.heap.size) (k : Below w.heap.size w u) : Kp B w u := Kp.refl.bel hB k
/-- what is known while bytes are written -/
def Wr (B : Nat) (w : World) (v : Value) (xs : List Int) (u : World) : Prop := Own8 u B v xs ∧ Kp B w u
theorem Wr.stable {B : Nat} {w : World} {v : Value} {xs : List Int} (hB : B ≤ w.heap.size) : Stable (Wr B w v xs) := fun u u' h k => ⟨own8_below h.1 k, h.2.bel hB k⟩

set_option maxRecDepth 100000 in
set_option maxHeartbeats 2000000 in
theorem writeText_own (s : ByteArray) (B : Nat) (v : Value) (xs : List Int) (w : World) (ho : Hid (Own8 w B v xs)) (hs : s.size ≤ 1000000000) (hx : Hid (xs.length + 20 + s.size ≤ 2000000000)) (hB : B ≤ w.heap.size) :
    Calls Tryz.prog 77 #[v, .agg #[.int .i64 2, .int .i64 0, .string s, .slice none 0 0]] w fun e w' => ∃ v', e = .returned v' ∧ Own8 w' B v' (xs ++ (numL s.size ++ strL s)) ∧ Kp B w w' := by
  go_enter Tryz.func77, Tryz.ntmps77
  go_wp2_with fail
  refine wp_region_any (by kernel_rfl) ?_
  change wpAny _ _ _ _ _ _ _ (World.drew _)
  generalize hWD : World.drew _ = W
  have BX := Lib.hid (show Blk W w.heap.size #[.int .i64 2, .int .i64 0, .string s, .slice none 0 0] 54 by rw [← hWD]; exact Blk.new w _ _)
  have EW := Lib.hid (show Below w.heap.size w W by rw [← hWD]; exact (bel_alloc1 w _).drew)
  clear hWD
  have HO := Lib.hid (own8_below ho.out EW.out)
  have KW := Lib.hid (kp_of_bel hB EW.out)
  have hBW : B ≤ W.heap.size := Nat.le_trans hB EW.out.size
  have hCD : ∀ u, Ext W u → Blk u w.heap.size #[.int .i64 2, .int .i64 0, .string s, .slice none 0 0] 54 := fun u hu => BX.out.below hu BX.out.lt
  have HW : Hid (IntKind.u64.wrap (s.size : Int) = (s.size : Int)) := Lib.hid (by rw [IntKind.wrap_u64]; omega)
  refine region_U (D := fun u => Blk u w.heap.size #[.int .i64 2, .int .i64 0, .string s, .slice none 0 0] 54) (Ext W) [8, 9] (Ext.refl W) ?_
  refine anyU_takeD (i := 0) (v := v) 5 rfl rfl (by kernel_rfl) (by kernel_rfl) (by kernel_rfl) (fun _ _ _ h => h) (by kernel_rfl) (Ext.stable _) hCD (yieldsU_val rfl (fun u hu => by rfl)) ?_
  refine anyU_takeD (i := 1) (v := .pointer (some ⟨w.heap.size, 2, none⟩)) 6 rfl rfl (by kernel_rfl) (by kernel_rfl) (by kernel_rfl) (fun _ _ _ h => h) (by kernel_rfl) (Ext.stable _) hCD (yieldsU_val rfl (fun u hu => by go_simp)) ?_
  refine anyU_takeD (i := 2) (v := .string s) 7 rfl rfl (by kernel_rfl) (by kernel_rfl) (by kernel_rfl) (fun _ _ _ h => h) (by kernel_rfl) (Ext.stable _) hCD (yieldsU_val rfl (fun u hu => by have c := hu.cell 2; go_simp)) ?_
  refine anyU_takeD (i := 3) (v := .int .i64 (s.size : Int)) 8 rfl rfl (by kernel_rfl) (by kernel_rfl) (by kernel_rfl) (fun _ _ _ h => h) (by kernel_rfl) (Ext.stable _) hCD (yieldsU_val rfl (fun u hu => by go_simp)) ?_
  refine anyU_takeD (i := 4) (v := .int .u64 (s.size : Int)) 9 rfl rfl (by kernel_rfl) (by kernel_rfl) (by kernel_rfl) (fun _ _ _ h => h) (by kernel_rfl) (Ext.stable _) hCD (yieldsU_val rfl (fun u hu => by go_simp; rw [HW.out])) ?_
  refine anyU_takeD (i := 6) (v := .pointer (some ⟨w.heap.size, 2, none⟩)) 11 rfl rfl (by kernel_rfl) (by kernel_rfl) (by kernel_rfl) (fun _ _ _ h => h) (by kernel_rfl) (Ext.stable _) hCD (yieldsU_val rfl (fun u hu => by go_simp)) ?_
  refine anyU_takeD (i := 7) (v := .string s) 12 rfl rfl (by kernel_rfl) (by kernel_rfl) (by kernel_rfl) (fun _ _ _ h => h) (by kernel_rfl) (Ext.stable _) hCD (yieldsU_val rfl (fun u hu => by have c := hu.cell 2; go_simp)) ?_
  simp only [Act.put, List.setIfInBounds_toArray, List.set_cons_succ, List.set_cons_zero]
  refine anyU_one 5 2 _ rfl rfl (by kernel_rfl) ?_
  intro u hu
  go_wp2_with fail
  refine (writeNumeral_own s.size B v xs u (Lib.hid (own8_below HO.out hu)) (by omega) (Lib.hid (by have := hx.out; omega)) (Nat.le_trans hBW hu.size)).mono ?_
  rintro e u1 ⟨v1, rfl, o1, k1⟩
  have F1 := Lib.hid (show Wr B w v1 (xs ++ numL s.size) u1 from ⟨o1, (KW.out.bel hB hu).trans k1⟩)
  have BX1 := Lib.hid (k1.2 _ _ _ (by decide) (BX.out.below hu BX.out.lt))
  clear o1 k1 hu
  go_wp2_with fail
  change ∃ C' : World → Prop, _ ∧ _ ∧ _ ∧ anyU _ _ _ _ _ _ 2 _ _ _
  refine anchorF (fun x => Wr B w v1 (xs ++ numL s.size) x ∧ Blk x w.heap.size #[.int .i64 2, .int .i64 0, .string s, .slice none 0 0] 54) (fun x hx => hx.2) ((Wr.stable hB).and (fun x y h k => h.below k h.lt)) ⟨F1.out, BX1.out⟩ ?_
  (try simp only [Act.put])
  refine anyU_tail 8 [9] rfl rfl (by decide) (by kernel_rfl) ?_
  intro u2 hu2
  simp only [Act.put, List.filterMap_cons, List.filterMap_nil, List.getElem?_cons_succ, List.getElem?_cons_zero]
  have hl := numL_len s.size 9 (by simp; omega) (by omega)
  refine appS8 rfl (.tmp 10) (.tmp 12) rfl B v1 (xs ++ numL s.size) rfl hu2.1.1 s rfl (by have := hx.out; simp; omega) (Nat.le_trans hB hu2.1.2.1.size) ?_
  intro v2 u3 o3 g3
  have K3 := Lib.hid (hu2.1.2.grown hu2.1.1 g3 (Nat.le_trans hB hu2.1.2.1.size))
  have O3 := Lib.hid o3
  clear o3 g3 hu2
  go_wp2_with fail
  go_ret
  exact ⟨v2, rfl, by rw [← List.append_assoc]; exact O3.out, K3.out⟩
end Go.Proofs.YthhlpkppcbillaaGreatDoor
