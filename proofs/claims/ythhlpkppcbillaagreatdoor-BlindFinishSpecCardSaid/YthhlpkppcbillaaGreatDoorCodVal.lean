/- A value written: codec.writeValue, for integers and texts. -/
import Derived.Test.YthhlpkppcbillaaGreatDoorCodTxt
import Derived.Test.YthhlpkppcbillaaGreatDoorCodInt
namespace Go.Proofs.YthhlpkppcbillaaGreatDoor
open Go.RowKit
set_option linter.unusedVariables false
set_option linter.unusedSimpArgs false
attribute [local go_sem] idx_form1 idx_form2 idx_form3 fld_form10 fld_form11 fld_form12 fld_form20 fld_form21 fld_form22 fld_form30 fld_form31 fld_form32
set_option maxRecDepth 100000 in
set_option maxHeartbeats 2000000 in
theorem writeValue_int (n : Nat) (B : Nat) (v : Value) (xs : List Int) (w : World) (ho : Hid (Own8 w B v xs)) (hn : n < 4611686018427387904) (hx : Hid (xs.length + 30 ≤ 2000000000)) (hB : B ≤ w.heap.size) :
    Calls Tryz.prog 54 #[v, .agg #[.int .i64 1, .int .i64 n, .string ⟨#[]⟩, .slice none 0 0]] w fun e w' => ∃ v', e = .returned v' ∧ Own8 w' B v' (xs ++ (1 :: numL (2 * n))) ∧ Kp B w w' := by
  go_enter Tryz.func54, Tryz.ntmps54
  go_wp2_with fail
  refine wp_region_any (by kernel_rfl) ?_
  change wpAny _ _ _ _ _ _ _ (World.drew _)
  generalize hWD : World.drew _ = W
  have BX := Lib.hid (show Blk W w.heap.size #[.int .i64 1, .int .i64 n, .string ⟨#[]⟩, .slice none 0 0] 54 by rw [← hWD]; exact Blk.new w _ _)
  have EW := Lib.hid (show Below w.heap.size w W by rw [← hWD]; exact (bel_alloc1 w _).drew)
  clear hWD
  have HO := Lib.hid (own8_below ho.out EW.out)
  have KW := Lib.hid (kp_of_bel hB EW.out)
  have hBW : B ≤ W.heap.size := Nat.le_trans hB EW.out.size
  have hCD : ∀ u, Ext W u → Blk u w.heap.size #[.int .i64 1, .int .i64 n, .string ⟨#[]⟩, .slice none 0 0] 54 := fun u hu => BX.out.below hu BX.out.lt
  refine region_U (D := fun u => Blk u w.heap.size #[.int .i64 1, .int .i64 n, .string ⟨#[]⟩, .slice none 0 0] 54) (Ext W) [12, 13] (Ext.refl W) ?_
  refine anyU_takeD (i := 0) (v := .agg #[.nilFunc, .nilFunc, .nilFunc, .nilFunc, .func (.func 72) #[] #[], .func (.func 73) #[] #[], .func (.func 74) #[] #[], .func (.func 75) #[] #[], .func (.func 76) #[] #[], .func (.func 77) #[] #[], .func (.func 78) #[] #[], .func (.func 79) #[] #[], .func (.func 80) #[] #[], .func (.func 81) #[] #[], .func (.func 82) #[] #[], .func (.func 83) #[] #[]]) 5 rfl rfl (by kernel_rfl) (by kernel_rfl) (by kernel_rfl) (fun _ _ _ h => h) (by kernel_rfl) (Ext.stable _) hCD (yieldsU_call rfl 66 _ _ rfl #[] (by simp [Act.eval, Act.put]) (fun u => by go_simp) (fun u hu => forms_lit u)) ?_
  refine anyU_takeD (i := 1) (v := .pointer (some ⟨w.heap.size, 0, none⟩)) 6 rfl rfl (by kernel_rfl) (by kernel_rfl) (by kernel_rfl) (fun _ _ _ h => h) (by kernel_rfl) (Ext.stable _) hCD (yieldsU_val rfl (fun u hu => by go_simp)) ?_
  refine anyU_takeD (i := 2) (v := .int .i64 1) 7 rfl rfl (by kernel_rfl) (by kernel_rfl) (by kernel_rfl) (fun _ _ _ h => h) (by kernel_rfl) (Ext.stable _) hCD (yieldsU_val rfl (fun u hu => by have c := hu.cell 0; go_simp)) ?_
  refine anyU_takeD (i := 3) (v := .agg #[.func (.func 72) #[] #[], .func (.func 73) #[] #[], .func (.func 74) #[] #[], .func (.func 75) #[] #[]]) 8 rfl rfl (by kernel_rfl) (by kernel_rfl) (by kernel_rfl) (fun _ _ _ h => h) (by kernel_rfl) (Ext.stable _) hCD (yieldsU_val rfl (fun u hu => by go_simp)) ?_
  refine anyU_takeD (i := 4) (v := .func (.func 73) #[] #[]) 9 rfl rfl (by kernel_rfl) (by kernel_rfl) (by kernel_rfl) (fun _ _ _ h => h) (by kernel_rfl) (Ext.stable _) hCD (yieldsU_val rfl (fun u hu => by go_simp)) ?_
  simp only [Act.put, List.setIfInBounds_toArray, List.set_cons_succ, List.set_cons_zero]
  refine anyU_takeD (i := 5) (v := v) 10 rfl rfl (by kernel_rfl) (by kernel_rfl) (by kernel_rfl) (fun _ _ _ h => h) (by kernel_rfl) (Ext.stable _) hCD (yieldsU_val rfl (fun u hu => by rfl)) ?_
  refine anyU_takeD (i := 6) (v := .pointer (some ⟨w.heap.size, 0, none⟩)) 11 rfl rfl (by kernel_rfl) (by kernel_rfl) (by kernel_rfl) (fun _ _ _ h => h) (by kernel_rfl) (Ext.stable _) hCD (yieldsU_val rfl (fun u hu => by go_simp)) ?_
  refine anyU_takeD (i := 7) (v := .int .i64 1) 12 rfl rfl (by kernel_rfl) (by kernel_rfl) (by kernel_rfl) (fun _ _ _ h => h) (by kernel_rfl) (Ext.stable _) hCD (yieldsU_val rfl (fun u hu => by have c := hu.cell 0; go_simp)) ?_
  refine anyU_takeD (i := 8) (v := .int .u8 1) 13 rfl rfl (by kernel_rfl) (by kernel_rfl) (by kernel_rfl) (fun _ _ _ h => h) (by kernel_rfl) (Ext.stable _) hCD (yieldsU_val rfl (fun u hu => by go_simp; rfl)) ?_
  refine anyU_takeD (i := 11) (v := .agg #[.int .i64 1, .int .i64 n, .string ⟨#[]⟩, .slice none 0 0]) 16 rfl rfl (by kernel_rfl) (by kernel_rfl) (by kernel_rfl) (fun _ _ _ h => h) (by kernel_rfl) (Ext.stable _) hCD (yieldsU_val rfl (fun u hu => by have c0 := hu.cell 0; have c1 := hu.cell 1; have c2 := hu.cell 2; have c3 := hu.cell 3; go_simp)) ?_
  simp only [Act.put, List.setIfInBounds_toArray, List.set_cons_succ, List.set_cons_zero]
  refine anyU_one 9 3 _ rfl rfl (by kernel_rfl) ?_
  intro u hu
  go_wp2_with fail
  change ∃ C' : World → Prop, _ ∧ _ ∧ _ ∧ anyU _ _ _ _ _ _ 3 _ _ _
  have hb1 : Below u.heap.size u (u.alloc (.cells #[.int .u8 1] 5)) := bel_alloc1 u _
  have F1 := Lib.hid (show Wr B w v xs (u.alloc (.cells #[.int .u8 1] 5)) from Wr.stable hB _ _ ⟨own8_below HO.out hu, KW.out.bel hB hu⟩ hb1)
  have Z1 := Lib.hid (oneB u 1)
  have X1 := Lib.hid (show Blk (u.alloc (.cells #[.int .u8 1] 5)) w.heap.size #[.int .i64 1, .int .i64 n, .string ⟨#[]⟩, .slice none 0 0] 54 from (hCD u hu).alloc _)
  have lt1 : u.heap.size < (u.alloc (.cells #[.int .u8 1] 5)).heap.size := by simp
  have le1 : B ≤ u.heap.size := Nat.le_trans hBW hu.size
  generalize World.alloc u _ = u1 at F1 Z1 X1 lt1 ⊢
  generalize u.heap.size = bb at Z1 lt1 le1 ⊢
  clear hu hb1
  refine anchorF (fun x => Wr B w v xs x ∧ (bb < x.heap.size ∧ BytesAt x bb 0 [1]) ∧ Blk x w.heap.size #[.int .i64 1, .int .i64 n, .string ⟨#[]⟩, .slice none 0 0] 54) (fun x hx => hx.2.2) ((Wr.stable hB).and (Stable.and (fun x y h k => ⟨Nat.lt_of_lt_of_le h.1 k.size, h.2.below k h.1⟩) (fun x y h k => h.below k h.lt))) ⟨F1.out, ⟨lt1, Z1.out⟩, X1.out⟩ ?_
  (try simp only [Act.put])
  refine anyU_one 10 2 _ rfl rfl (by kernel_rfl) ?_
  intro u2 hu2
  refine app8 rfl (.tmp 10) (.tmp 14) rfl B v xs rfl hu2.1.1 (some ⟨bb, 0, none⟩) 1 1 [1] rfl ⟨rfl, .inr ⟨bb, 0, rfl, hu2.2.1.1, hu2.2.1.2⟩⟩ (by have := hx.out; simp; omega) (Nat.le_trans hB hu2.1.2.1.size) ?_
  intro v2 u3 o3 g3
  have F3 := Lib.hid (show Wr B w v2 (xs ++ [1]) u3 from ⟨o3, hu2.1.2.grown hu2.1.1 g3 (Nat.le_trans hB hu2.1.2.1.size)⟩)
  have X3 := Lib.hid (show Blk u3 w.heap.size #[.int .i64 1, .int .i64 n, .string ⟨#[]⟩, .slice none 0 0] 54 from ((Kp.refl (B := B) (w := u2)).grown hu2.1.1 g3 (Nat.le_trans hB hu2.1.2.1.size)).2 _ _ _ (by decide) hu2.2.2)
  clear o3 g3 hu2
  change ∃ C' : World → Prop, _ ∧ _ ∧ _ ∧ anyU _ _ _ _ _ _ 2 _ _ _
  refine anchorF (fun x => Wr B w v2 (xs ++ [1]) x ∧ Blk x w.heap.size #[.int .i64 1, .int .i64 n, .string ⟨#[]⟩, .slice none 0 0] 54) (fun x hx => hx.2) ((Wr.stable hB).and (fun x y h k => h.below k h.lt)) ⟨F3.out, X3.out⟩ ?_
  (try simp only [Act.put])
  refine anyU_tail 12 [13] rfl rfl (by decide) (by kernel_rfl) ?_
  intro u4 hu4
  simp only [Act.put, List.filterMap_cons, List.filterMap_nil, List.getElem?_cons_succ, List.getElem?_cons_zero]
  go_wp2_with fail
  refine (writeInt_own n B v2 (xs ++ [1]) u4 (Lib.hid hu4.1.1) hn (Lib.hid (by have := hx.out; simp; omega)) (Nat.le_trans hB hu4.1.2.1.size)).mono ?_
  rintro e u5 ⟨v5, rfl, o5, k5⟩
  have O5 := Lib.hid o5
  have K5 := Lib.hid (hu4.1.2.trans k5)
  clear o5 k5 hu4
  go_wp2_with fail
  go_ret
  exact ⟨v5, rfl, by have := O5.out; rwa [List.append_assoc] at this, K5.out⟩
set_option maxRecDepth 100000 in
set_option maxHeartbeats 2000000 in
theorem writeValue_text (s : ByteArray) (B : Nat) (v : Value) (xs : List Int) (w : World) (ho : Hid (Own8 w B v xs)) (hs : s.size ≤ 1000000000) (hx : Hid (xs.length + 30 + s.size ≤ 2000000000)) (hB : B ≤ w.heap.size) :
    Calls Tryz.prog 54 #[v, .agg #[.int .i64 2, .int .i64 0, .string s, .slice none 0 0]] w fun e w' => ∃ v', e = .returned v' ∧ Own8 w' B v' (xs ++ (2 :: (numL s.size ++ strL s))) ∧ Kp B w w' := by
  go_enter Tryz.func54, Tryz.ntmps54
  go_wp2_with fail
  refine wp_region_any (by kernel_rfl) ?_
  change wpAny _ _ _ _ _ _ _ (World.drew _)
  generalize hWD : World.drew _ = W
  have BX := Lib.hid (show Blk W w.heap.size #[.int .i64 2, .int .i64 0, .string s, .slice none 0 0] 54 by rw [← hWD]; exact Blk.new w _ _)
  have EW := Lib.hid (show Below w.heap.size w W by rw [← hWD]; exact (bel_alloc1 w _).drew)
  clear hWD
  have HO := Lib.hid (own8_below ho.out EW.out)
  have KW := Lib.hid (kp_of_bel hB EW.out)
  have hBW : B ≤ W.heap.size := Nat.le_trans hB EW.out.size
  have hCD : ∀ u, Ext W u → Blk u w.heap.size #[.int .i64 2, .int .i64 0, .string s, .slice none 0 0] 54 := fun u hu => BX.out.below hu BX.out.lt
  refine region_U (D := fun u => Blk u w.heap.size #[.int .i64 2, .int .i64 0, .string s, .slice none 0 0] 54) (Ext W) [12, 13] (Ext.refl W) ?_
  refine anyU_takeD (i := 0) (v := .agg #[.nilFunc, .nilFunc, .nilFunc, .nilFunc, .func (.func 72) #[] #[], .func (.func 73) #[] #[], .func (.func 74) #[] #[], .func (.func 75) #[] #[], .func (.func 76) #[] #[], .func (.func 77) #[] #[], .func (.func 78) #[] #[], .func (.func 79) #[] #[], .func (.func 80) #[] #[], .func (.func 81) #[] #[], .func (.func 82) #[] #[], .func (.func 83) #[] #[]]) 5 rfl rfl (by kernel_rfl) (by kernel_rfl) (by kernel_rfl) (fun _ _ _ h => h) (by kernel_rfl) (Ext.stable _) hCD (yieldsU_call rfl 66 _ _ rfl #[] (by simp [Act.eval, Act.put]) (fun u => by go_simp) (fun u hu => forms_lit u)) ?_
  refine anyU_takeD (i := 1) (v := .pointer (some ⟨w.heap.size, 0, none⟩)) 6 rfl rfl (by kernel_rfl) (by kernel_rfl) (by kernel_rfl) (fun _ _ _ h => h) (by kernel_rfl) (Ext.stable _) hCD (yieldsU_val rfl (fun u hu => by go_simp)) ?_
  refine anyU_takeD (i := 2) (v := .int .i64 2) 7 rfl rfl (by kernel_rfl) (by kernel_rfl) (by kernel_rfl) (fun _ _ _ h => h) (by kernel_rfl) (Ext.stable _) hCD (yieldsU_val rfl (fun u hu => by have c := hu.cell 0; go_simp)) ?_
  refine anyU_takeD (i := 3) (v := .agg #[.func (.func 76) #[] #[], .func (.func 77) #[] #[], .func (.func 78) #[] #[], .func (.func 79) #[] #[]]) 8 rfl rfl (by kernel_rfl) (by kernel_rfl) (by kernel_rfl) (fun _ _ _ h => h) (by kernel_rfl) (Ext.stable _) hCD (yieldsU_val rfl (fun u hu => by go_simp)) ?_
  refine anyU_takeD (i := 4) (v := .func (.func 77) #[] #[]) 9 rfl rfl (by kernel_rfl) (by kernel_rfl) (by kernel_rfl) (fun _ _ _ h => h) (by kernel_rfl) (Ext.stable _) hCD (yieldsU_val rfl (fun u hu => by go_simp)) ?_
  simp only [Act.put, List.setIfInBounds_toArray, List.set_cons_succ, List.set_cons_zero]
  refine anyU_takeD (i := 5) (v := v) 10 rfl rfl (by kernel_rfl) (by kernel_rfl) (by kernel_rfl) (fun _ _ _ h => h) (by kernel_rfl) (Ext.stable _) hCD (yieldsU_val rfl (fun u hu => by rfl)) ?_
  refine anyU_takeD (i := 6) (v := .pointer (some ⟨w.heap.size, 0, none⟩)) 11 rfl rfl (by kernel_rfl) (by kernel_rfl) (by kernel_rfl) (fun _ _ _ h => h) (by kernel_rfl) (Ext.stable _) hCD (yieldsU_val rfl (fun u hu => by go_simp)) ?_
  refine anyU_takeD (i := 7) (v := .int .i64 2) 12 rfl rfl (by kernel_rfl) (by kernel_rfl) (by kernel_rfl) (fun _ _ _ h => h) (by kernel_rfl) (Ext.stable _) hCD (yieldsU_val rfl (fun u hu => by have c := hu.cell 0; go_simp)) ?_
  refine anyU_takeD (i := 8) (v := .int .u8 2) 13 rfl rfl (by kernel_rfl) (by kernel_rfl) (by kernel_rfl) (fun _ _ _ h => h) (by kernel_rfl) (Ext.stable _) hCD (yieldsU_val rfl (fun u hu => by go_simp; rfl)) ?_
  refine anyU_takeD (i := 11) (v := .agg #[.int .i64 2, .int .i64 0, .string s, .slice none 0 0]) 16 rfl rfl (by kernel_rfl) (by kernel_rfl) (by kernel_rfl) (fun _ _ _ h => h) (by kernel_rfl) (Ext.stable _) hCD (yieldsU_val rfl (fun u hu => by have c0 := hu.cell 0; have c1 := hu.cell 1; have c2 := hu.cell 2; have c3 := hu.cell 3; go_simp)) ?_
  simp only [Act.put, List.setIfInBounds_toArray, List.set_cons_succ, List.set_cons_zero]
  refine anyU_one 9 3 _ rfl rfl (by kernel_rfl) ?_
  intro u hu
  go_wp2_with fail
  change ∃ C' : World → Prop, _ ∧ _ ∧ _ ∧ anyU _ _ _ _ _ _ 3 _ _ _
  have hb1 : Below u.heap.size u (u.alloc (.cells #[.int .u8 2] 5)) := bel_alloc1 u _
  have F1 := Lib.hid (show Wr B w v xs (u.alloc (.cells #[.int .u8 2] 5)) from Wr.stable hB _ _ ⟨own8_below HO.out hu, KW.out.bel hB hu⟩ hb1)
  have Z1 := Lib.hid (oneB u 2)
  have X1 := Lib.hid (show Blk (u.alloc (.cells #[.int .u8 2] 5)) w.heap.size #[.int .i64 2, .int .i64 0, .string s, .slice none 0 0] 54 from (hCD u hu).alloc _)
  have lt1 : u.heap.size < (u.alloc (.cells #[.int .u8 2] 5)).heap.size := by simp
  have le1 : B ≤ u.heap.size := Nat.le_trans hBW hu.size
  generalize World.alloc u _ = u1 at F1 Z1 X1 lt1 ⊢
  generalize u.heap.size = bb at Z1 lt1 le1 ⊢
  clear hu hb1
  refine anchorF (fun x => Wr B w v xs x ∧ (bb < x.heap.size ∧ BytesAt x bb 0 [2]) ∧ Blk x w.heap.size #[.int .i64 2, .int .i64 0, .string s, .slice none 0 0] 54) (fun x hx => hx.2.2) ((Wr.stable hB).and (Stable.and (fun x y h k => ⟨Nat.lt_of_lt_of_le h.1 k.size, h.2.below k h.1⟩) (fun x y h k => h.below k h.lt))) ⟨F1.out, ⟨lt1, Z1.out⟩, X1.out⟩ ?_
  (try simp only [Act.put])
  refine anyU_one 10 2 _ rfl rfl (by kernel_rfl) ?_
  intro u2 hu2
  refine app8 rfl (.tmp 10) (.tmp 14) rfl B v xs rfl hu2.1.1 (some ⟨bb, 0, none⟩) 1 1 [2] rfl ⟨rfl, .inr ⟨bb, 0, rfl, hu2.2.1.1, hu2.2.1.2⟩⟩ (by have := hx.out; simp; omega) (Nat.le_trans hB hu2.1.2.1.size) ?_
  intro v2 u3 o3 g3
  have F3 := Lib.hid (show Wr B w v2 (xs ++ [2]) u3 from ⟨o3, hu2.1.2.grown hu2.1.1 g3 (Nat.le_trans hB hu2.1.2.1.size)⟩)
  have X3 := Lib.hid (show Blk u3 w.heap.size #[.int .i64 2, .int .i64 0, .string s, .slice none 0 0] 54 from ((Kp.refl (B := B) (w := u2)).grown hu2.1.1 g3 (Nat.le_trans hB hu2.1.2.1.size)).2 _ _ _ (by decide) hu2.2.2)
  clear o3 g3 hu2
  change ∃ C' : World → Prop, _ ∧ _ ∧ _ ∧ anyU _ _ _ _ _ _ 2 _ _ _
  refine anchorF (fun x => Wr B w v2 (xs ++ [2]) x ∧ Blk x w.heap.size #[.int .i64 2, .int .i64 0, .string s, .slice none 0 0] 54) (fun x hx => hx.2) ((Wr.stable hB).and (fun x y h k => h.below k h.lt)) ⟨F3.out, X3.out⟩ ?_
  (try simp only [Act.put])
  refine anyU_tail 12 [13] rfl rfl (by decide) (by kernel_rfl) ?_
  intro u4 hu4
  simp only [Act.put, List.filterMap_cons, List.filterMap_nil, List.getElem?_cons_succ, List.getElem?_cons_zero]
  go_wp2_with fail
  refine (writeText_own s B v2 (xs ++ [2]) u4 (Lib.hid hu4.1.1) hs (Lib.hid (by have := hx.out; simp; omega)) (Nat.le_trans hB hu4.1.2.1.size)).mono ?_
  rintro e u5 ⟨v5, rfl, o5, k5⟩
  have O5 := Lib.hid o5
  have K5 := Lib.hid (hu4.1.2.trans k5)
  clear o5 k5 hu4
  go_wp2_with fail
  go_ret
  exact ⟨v5, rfl, by have := O5.out; rwa [List.append_assoc] at this, K5.out⟩
end Go.Proofs.YthhlpkppcbillaaGreatDoor
