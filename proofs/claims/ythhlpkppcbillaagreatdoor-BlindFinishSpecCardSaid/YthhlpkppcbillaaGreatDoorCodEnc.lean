/- A list of atoms encoded: codec.Encode. -/
import Derived.Test.YthhlpkppcbillaaGreatDoorCodLst
import Derived.Test.YthhlpkppcbillaaGreatDoorCodSzV
import Derived.OwnWalk
namespace Go.Proofs.YthhlpkppcbillaaGreatDoor
open Go.RowKit
set_option linter.unusedVariables false
set_option linter.unusedSimpArgs false
attribute [local go_sem] idx_form1 idx_form2 idx_form3 fld_form10 fld_form11 fld_form12 fld_form20 fld_form21 fld_form22 fld_form30 fld_form31 fld_form32
set_option maxRecDepth 100000 in
set_option maxHeartbeats 2000000 in
theorem writeValue_list (l : List Atom) (b o n cap : Nat) (B : Nat) (v : Value) (xs : List Int) (w : World) (ho : Hid (Own8 w B v xs)) (hn : Hid (n = l.length)) (hm : n ≤ 1000000) (hok : Hid (∀ a ∈ l, a.ok)) (hb : b < B) (hl : Hid (AtomsAt w b o l)) (hx : Hid (xs.length + 40 + lenA l ≤ 2000000000)) (hB : B ≤ w.heap.size) :
    Calls Tryz.prog 54 #[v, .agg #[.int .i64 3, .int .i64 0, .string ⟨#[]⟩, .slice (some ⟨b, o, none⟩) n cap]] w fun e w' => ∃ v', e = .returned v' ∧ Own8 w' B v' (xs ++ (3 :: (numL n ++ (l.map Atom.enc).flatten))) ∧ Kp B w w' := by
  go_enter Tryz.func54, Tryz.ntmps54
  go_wp2_with fail
  refine wp_region_any (by kernel_rfl) ?_
  change wpAny _ _ _ _ _ _ _ (World.drew _)
  generalize hWD : World.drew _ = W
  have BX := Lib.hid (show Blk W w.heap.size #[.int .i64 3, .int .i64 0, .string ⟨#[]⟩, .slice (some ⟨b, o, none⟩) n cap] 54 by rw [← hWD]; exact Blk.new w _ _)
  have EW := Lib.hid (show Below w.heap.size w W by rw [← hWD]; exact (bel_alloc1 w _).drew)
  clear hWD
  have HO := Lib.hid (own8_below ho.out EW.out)
  have KW := Lib.hid (kp_of_bel hB EW.out)
  have hBW : B ≤ W.heap.size := Nat.le_trans hB EW.out.size
  have hCD : ∀ u, Ext W u → Blk u w.heap.size #[.int .i64 3, .int .i64 0, .string ⟨#[]⟩, .slice (some ⟨b, o, none⟩) n cap] 54 := fun u hu => BX.out.below hu BX.out.lt
  refine region_U (D := fun u => Blk u w.heap.size #[.int .i64 3, .int .i64 0, .string ⟨#[]⟩, .slice (some ⟨b, o, none⟩) n cap] 54) (Ext W) [12, 13] (Ext.refl W) ?_
  refine anyU_takeD (i := 0) (v := .agg #[.nilFunc, .nilFunc, .nilFunc, .nilFunc, .func (.func 72) #[] #[], .func (.func 73) #[] #[], .func (.func 74) #[] #[], .func (.func 75) #[] #[], .func (.func 76) #[] #[], .func (.func 77) #[] #[], .func (.func 78) #[] #[], .func (.func 79) #[] #[], .func (.func 80) #[] #[], .func (.func 81) #[] #[], .func (.func 82) #[] #[], .func (.func 83) #[] #[]]) 5 rfl rfl (by kernel_rfl) (by kernel_rfl) (by kernel_rfl) (fun _ _ _ h => h) (by kernel_rfl) (Ext.stable _) hCD (yieldsU_call rfl 66 _ _ rfl #[] (by simp [Act.eval, Act.put]) (fun u => by go_simp) (fun u hu => forms_lit u)) ?_
  refine anyU_takeD (i := 1) (v := .pointer (some ⟨w.heap.size, 0, none⟩)) 6 rfl rfl (by kernel_rfl) (by kernel_rfl) (by kernel_rfl) (fun _ _ _ h => h) (by kernel_rfl) (Ext.stable _) hCD (yieldsU_val rfl (fun u hu => by go_simp)) ?_
  refine anyU_takeD (i := 2) (v := .int .i64 3) 7 rfl rfl (by kernel_rfl) (by kernel_rfl) (by kernel_rfl) (fun _ _ _ h => h) (by kernel_rfl) (Ext.stable _) hCD (yieldsU_val rfl (fun u hu => by have c := hu.cell 0; go_simp)) ?_
  refine anyU_takeD (i := 3) (v := .agg #[.func (.func 80) #[] #[], .func (.func 81) #[] #[], .func (.func 82) #[] #[], .func (.func 83) #[] #[]]) 8 rfl rfl (by kernel_rfl) (by kernel_rfl) (by kernel_rfl) (fun _ _ _ h => h) (by kernel_rfl) (Ext.stable _) hCD (yieldsU_val rfl (fun u hu => by go_simp)) ?_
  refine anyU_takeD (i := 4) (v := .func (.func 81) #[] #[]) 9 rfl rfl (by kernel_rfl) (by kernel_rfl) (by kernel_rfl) (fun _ _ _ h => h) (by kernel_rfl) (Ext.stable _) hCD (yieldsU_val rfl (fun u hu => by go_simp)) ?_
  simp only [Act.put, List.setIfInBounds_toArray, List.set_cons_succ, List.set_cons_zero]
  refine anyU_takeD (i := 5) (v := v) 10 rfl rfl (by kernel_rfl) (by kernel_rfl) (by kernel_rfl) (fun _ _ _ h => h) (by kernel_rfl) (Ext.stable _) hCD (yieldsU_val rfl (fun u hu => by rfl)) ?_
  refine anyU_takeD (i := 6) (v := .pointer (some ⟨w.heap.size, 0, none⟩)) 11 rfl rfl (by kernel_rfl) (by kernel_rfl) (by kernel_rfl) (fun _ _ _ h => h) (by kernel_rfl) (Ext.stable _) hCD (yieldsU_val rfl (fun u hu => by go_simp)) ?_
  refine anyU_takeD (i := 7) (v := .int .i64 3) 12 rfl rfl (by kernel_rfl) (by kernel_rfl) (by kernel_rfl) (fun _ _ _ h => h) (by kernel_rfl) (Ext.stable _) hCD (yieldsU_val rfl (fun u hu => by have c := hu.cell 0; go_simp)) ?_
  refine anyU_takeD (i := 8) (v := .int .u8 3) 13 rfl rfl (by kernel_rfl) (by kernel_rfl) (by kernel_rfl) (fun _ _ _ h => h) (by kernel_rfl) (Ext.stable _) hCD (yieldsU_val rfl (fun u hu => by go_simp; rfl)) ?_
  refine anyU_takeD (i := 11) (v := .agg #[.int .i64 3, .int .i64 0, .string ⟨#[]⟩, .slice (some ⟨b, o, none⟩) n cap]) 16 rfl rfl (by kernel_rfl) (by kernel_rfl) (by kernel_rfl) (fun _ _ _ h => h) (by kernel_rfl) (Ext.stable _) hCD (yieldsU_val rfl (fun u hu => by have c0 := hu.cell 0; have c1 := hu.cell 1; have c2 := hu.cell 2; have c3 := hu.cell 3; go_simp)) ?_
  simp only [Act.put, List.setIfInBounds_toArray, List.set_cons_succ, List.set_cons_zero]
  refine anyU_one 9 3 _ rfl rfl (by kernel_rfl) ?_
  intro u hu
  go_wp2_with fail
  change ∃ C' : World → Prop, _ ∧ _ ∧ _ ∧ anyU _ _ _ _ _ _ 3 _ _ _
  have hb1 : Below u.heap.size u (u.alloc (.cells #[.int .u8 3] 5)) := bel_alloc1 u _
  have F1 := Lib.hid (show Wr B w v xs (u.alloc (.cells #[.int .u8 3] 5)) from Wr.stable hB _ _ ⟨own8_below HO.out hu, KW.out.bel hB hu⟩ hb1)
  have Z1 := Lib.hid (oneB u 3)
  have X1 := Lib.hid (show Blk (u.alloc (.cells #[.int .u8 3] 5)) w.heap.size #[.int .i64 3, .int .i64 0, .string ⟨#[]⟩, .slice (some ⟨b, o, none⟩) n cap] 54 from (hCD u hu).alloc _)
  have lt1 : u.heap.size < (u.alloc (.cells #[.int .u8 3] 5)).heap.size := by simp
  have le1 : B ≤ u.heap.size := Nat.le_trans hBW hu.size
  generalize World.alloc u _ = u1 at F1 Z1 X1 lt1 ⊢
  generalize u.heap.size = bb at Z1 lt1 le1 ⊢
  clear hu hb1
  refine anchorF (fun x => Wr B w v xs x ∧ (bb < x.heap.size ∧ BytesAt x bb 0 [3]) ∧ Blk x w.heap.size #[.int .i64 3, .int .i64 0, .string ⟨#[]⟩, .slice (some ⟨b, o, none⟩) n cap] 54) (fun x hx => hx.2.2) ((Wr.stable hB).and (Stable.and (fun x y h k => ⟨Nat.lt_of_lt_of_le h.1 k.size, h.2.below k h.1⟩) (fun x y h k => h.below k h.lt))) ⟨F1.out, ⟨lt1, Z1.out⟩, X1.out⟩ ?_
  (try simp only [Act.put])
  refine anyU_one 10 2 _ rfl rfl (by kernel_rfl) ?_
  intro u2 hu2
  refine app8 rfl (.tmp 10) (.tmp 14) rfl B v xs rfl hu2.1.1 (some ⟨bb, 0, none⟩) 1 1 [3] rfl ⟨rfl, .inr ⟨bb, 0, rfl, hu2.2.1.1, hu2.2.1.2⟩⟩ (by have := hx.out; simp; omega) (Nat.le_trans hB hu2.1.2.1.size) ?_
  intro v2 u3 o3 g3
  have F3 := Lib.hid (show Wr B w v2 (xs ++ [3]) u3 from ⟨o3, hu2.1.2.grown hu2.1.1 g3 (Nat.le_trans hB hu2.1.2.1.size)⟩)
  have X3 := Lib.hid (show Blk u3 w.heap.size #[.int .i64 3, .int .i64 0, .string ⟨#[]⟩, .slice (some ⟨b, o, none⟩) n cap] 54 from ((Kp.refl (B := B) (w := u2)).grown hu2.1.1 g3 (Nat.le_trans hB hu2.1.2.1.size)).2 _ _ _ (by decide) hu2.2.2)
  clear o3 g3 hu2
  change ∃ C' : World → Prop, _ ∧ _ ∧ _ ∧ anyU _ _ _ _ _ _ 2 _ _ _
  refine anchorF (fun x => Wr B w v2 (xs ++ [3]) x ∧ Blk x w.heap.size #[.int .i64 3, .int .i64 0, .string ⟨#[]⟩, .slice (some ⟨b, o, none⟩) n cap] 54) (fun x hx => hx.2) ((Wr.stable hB).and (fun x y h k => h.below k h.lt)) ⟨F3.out, X3.out⟩ ?_
  (try simp only [Act.put])
  refine anyU_tail 12 [13] rfl rfl (by decide) (by kernel_rfl) ?_
  intro u4 hu4
  simp only [Act.put, List.filterMap_cons, List.filterMap_nil, List.getElem?_cons_succ, List.getElem?_cons_zero]
  go_wp2_with fail
  refine (writeList_own l b o n cap B v2 (xs ++ [3]) u4 hn hm hok hb (Lib.hid (hl.out.below hu4.1.2.1 hb)) (Lib.hid hu4.1.1) (Lib.hid (by have := hx.out; simp; omega)) (Nat.le_trans hB hu4.1.2.1.size)).mono ?_
  rintro e u5 ⟨v5, rfl, o5, k5⟩
  have O5 := Lib.hid o5
  have K5 := Lib.hid (hu4.1.2.trans k5)
  clear o5 k5 hu4
  go_wp2_with fail
  go_ret
  exact ⟨v5, rfl, by have := O5.out; rwa [List.append_assoc] at this, K5.out⟩
theorem own8_mono {w : World} {B B' : Nat} {v : Value} {zs : List Int} (h : Own8 w B v zs) (k : B' ≤ B) : Own8 w B' v zs := by
  obtain ⟨h1, h2 | ⟨g, cap, cur, e1, e2, e3⟩⟩ := h
  · exact ⟨h1, .inl h2⟩
  · exact ⟨h1, .inr ⟨g, cap, cur, e1, Nat.le_trans k e2, e3⟩⟩
/-- append and the like: make([]byte, 0, k) -/
theorem make8 {ops : Array Oper} {rest : List Oper} {o : Oper} {a : Act} {w : World} {Q : Exit → Act → World → Prop} (hg : o.guard = none) (l c : Operand) (hop : o.op = Op.makeSlice 22 l c) (B : Nat) (n : Nat)
    (hl : a.eval l = .int .i64 0) (hc : a.eval c = .int .i64 (n : Int)) (hn : n ≤ 3000000000) (hB : B ≤ w.heap.size)
    (hK : ∀ w', Own8 w' B (.slice (some ⟨w.heap.size, 0, none⟩) 0 n) [] → Below w.heap.size w w' → wpList Tryz.prog ops Q rest (a.put o.dst (.slice (some ⟨w.heap.size, 0, none⟩) 0 n)) w') : wpList Tryz.prog ops Q (o :: rest) a w := by
  obtain ⟨i0, hi, hz0, hz1, hz2⟩ := info_parts info8
  refine wpList_make_own w hg l c 22 hop B 5 i0 (.int .u8 0) 1 Tryz.underlying22 hi hz0 hz1 .i64 .i64 (n : Int) n hl hc rfl (by rw [hz2]; omega) (by unfold maxLen; omega) hB ?_
  intro w' h1 h2
  exact hK w' h1 ⟨h2.os, h2.tape, h2.output, h2.size, fun i hi => h2.block i hi (by intro e; cases e)⟩
set_option maxRecDepth 100000 in
set_option maxHeartbeats 2000000 in
theorem encode_list (l : List Atom) (b o n cap : Nat) (w : World) (hn : Hid (n = l.length)) (hm : n ≤ 1000000) (hok : Hid (∀ a ∈ l, a.ok)) (hb : b < w.heap.size) (hl : Hid (AtomsAt w b o l)) (hx : Hid (60 + lenA l ≤ 2000000000)) :
    Calls Tryz.prog 43 #[.agg #[.int .i64 3, .int .i64 0, .string ⟨#[]⟩, .slice (some ⟨b, o, none⟩) n cap]] w fun e w' => ∃ v', e = .returned (.tuple #[v', .int .i64 0]) ∧ Own8 w' w.heap.size v' (encL l) ∧ Below w.heap.size w w' := by
  go_enter Tryz.func43, Tryz.ntmps43
  have HB0 := Lib.hid (bel_alloc1 w (.cells #[.int .i64 3, .int .i64 0, .string ⟨#[]⟩, .slice (some ⟨b, o, none⟩) n cap] 54))
  have V0 := Lib.hid (Blk.new w #[.int .i64 3, .int .i64 0, .string ⟨#[]⟩, .slice (some ⟨b, o, none⟩) n cap] 54)
  go_wp2_with (go_at_call 53; refine (check_list l b o n cap _ hn (by omega) (Nat.lt_of_lt_of_le hb HB0.out.size) (Lib.hid (hl.out.below HB0.out hb))).mono ?_; rintro e u1 ⟨rfl, hb1⟩)
  have V1 := Lib.hid (V0.out.below hb1 V0.out.lt)
  have HB1 := Lib.hid (bel_trans HB0.out hb1)
  clear V0 HB0 hb1
  refine wp_region_any (by kernel_rfl) ?_
  change wpAny _ _ _ _ _ _ _ (World.drew _)
  generalize hWD : World.drew _ = W
  have BX := Lib.hid (show Blk W w.heap.size #[.int .i64 3, .int .i64 0, .string ⟨#[]⟩, .slice (some ⟨b, o, none⟩) n cap] 54 by rw [← hWD]; exact V1.out)
  have EW := Lib.hid (show Below w.heap.size w W by rw [← hWD]; exact HB1.out.drew)
  clear hWD V1 HB1
  have hCD : ∀ u, Ext W u → Blk u w.heap.size #[.int .i64 3, .int .i64 0, .string ⟨#[]⟩, .slice (some ⟨b, o, none⟩) n cap] 54 := fun u hu => BX.out.below hu BX.out.lt
  have hbW : b < W.heap.size := Nat.lt_of_lt_of_le hb EW.out.size
  have hAW := Lib.hid (hl.out.below EW.out hb)
  refine region_U (D := fun u => Blk u w.heap.size #[.int .i64 3, .int .i64 0, .string ⟨#[]⟩, .slice (some ⟨b, o, none⟩) n cap] 54) (Ext W) [4, 5, 6] (Ext.refl W) ?_
  refine anyU_takeD (i := 0) (v := .agg #[.int .i64 3, .int .i64 0, .string ⟨#[]⟩, .slice (some ⟨b, o, none⟩) n cap]) 9 rfl rfl (by kernel_rfl) (by kernel_rfl) (by kernel_rfl) (fun _ _ _ h => h) (by kernel_rfl) (Ext.stable _) hCD (yieldsU_val rfl (fun u hu => by have c0 := hu.cell 0; have c1 := hu.cell 1; have c2 := hu.cell 2; have c3 := hu.cell 3; go_simp)) ?_
  refine anyU_takeD (i := 3) (v := .agg #[.int .i64 3, .int .i64 0, .string ⟨#[]⟩, .slice (some ⟨b, o, none⟩) n cap]) 12 rfl rfl (by kernel_rfl) (by kernel_rfl) (by kernel_rfl) (fun _ _ _ h => h) (by kernel_rfl) (Ext.stable _) hCD (yieldsU_val rfl (fun u hu => by have c0 := hu.cell 0; have c1 := hu.cell 1; have c2 := hu.cell 2; have c3 := hu.cell 3; go_simp)) ?_
  simp only [Act.put, List.setIfInBounds_toArray, List.set_cons_succ, List.set_cons_zero]
  refine anyU_one 1 4 _ rfl rfl (by kernel_rfl) ?_
  intro u hu
  go_wp2_with fail
  refine (sizeValue_list l b o n cap u hn hm hok (Nat.lt_of_lt_of_le hbW hu.size) (Lib.hid (hAW.out.below hu hbW)) (by have := hx.out; omega)).mono ?_
  rintro e u1 ⟨⟨k, rfl, hk⟩, hb1⟩
  have hkb : k ≤ 2000000000 := by have := hx.out; omega
  have E1 := Lib.hid (Ext.trans hu hb1)
  clear hb1 hu
  go_wp2_with fail
  change ∃ C' : World → Prop, _ ∧ _ ∧ _ ∧ anyU _ _ _ _ _ _ 4 _ _ _
  refine anchorF (Ext W) hCD (Ext.stable W) E1.out ?_
  (try simp only [Act.put])
  refine anyU_one 2 3 _ rfl rfl (by kernel_rfl) ?_
  intro u2 hu2
  refine make8 rfl (.const (.int .i64 0)) (.tmp 10) rfl u2.heap.size k rfl rfl (by omega) (Nat.le_refl _) ?_
  intro u3 o3 b3
  have O3 := Lib.hid o3
  have E3 := Lib.hid (Ext.trans hu2 b3)
  have hle : W.heap.size ≤ u2.heap.size := hu2.size
  have le3 : u2.heap.size ≤ u3.heap.size := b3.size
  clear o3 b3 hu2
  generalize u2.heap.size = bb at O3 hle le3 ⊢
  change ∃ C' : World → Prop, _ ∧ _ ∧ _ ∧ anyU _ _ _ _ _ _ 3 _ _ _
  refine anchorF (fun x => Wr bb u3 (.slice (some ⟨bb, 0, none⟩) 0 k) [] x ∧ Ext W x) (fun x hx => hCD x hx.2) ((Wr.stable le3).and (Ext.stable W)) ⟨⟨O3.out, Kp.refl⟩, E3.out⟩ ?_
  (try simp only [Act.put])
  refine anyU_tail 4 [5, 6] rfl rfl (by decide) (by kernel_rfl) ?_
  intro u4 hu4
  simp only [Act.put, List.filterMap_cons, List.filterMap_nil, List.getElem?_cons_succ, List.getElem?_cons_zero]
  go_wp2_with fail
  refine (writeValue_list l b o n cap bb (.slice (some ⟨bb, 0, none⟩) 0 k) [] u4 (Lib.hid hu4.1.1) hn hm hok (Nat.lt_of_lt_of_le hbW hle) (Lib.hid (hAW.out.below hu4.2 hbW)) (Lib.hid (by have := hx.out; simp; omega)) (Nat.le_trans le3 hu4.1.2.1.size)).mono ?_
  rintro e u5 ⟨v5, rfl, o5, k5⟩
  have hwb : w.heap.size ≤ bb := Nat.le_trans EW.out.size hle
  have O5 := Lib.hid (own8_mono o5 hwb)
  have K5 := Lib.hid (EW.out.trans ((Below.trans hu4.2 (k5.1.mono hle)).mono EW.out.size))
  clear o5 k5 hu4
  go_wp2_with fail
  go_ret2
  refine ⟨v5, rfl, ?_, K5.out⟩
  have h := O5.out
  rw [List.nil_append, hn.out] at h
  exact h
end Go.Proofs.YthhlpkppcbillaaGreatDoor
