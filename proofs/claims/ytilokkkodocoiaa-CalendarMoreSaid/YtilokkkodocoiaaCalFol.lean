/- Package calendar: period, following, earliest. -/
import Derived.Test.YtilokkkodocoiaaCalB
import Derived.Test.YtilokkkodocoiaaRegP
import Derived.Deep.DeepCutAuto
namespace Go.Proofs.Ytilokkkodocoiaa
open Go.RowKit
set_option linter.unusedVariables false
set_option linter.unusedSimpArgs false

theorem cperiod_a (a b : Int) (w : World) (h0 : a < 0) : Calls Try.prog 21 #[.int .i64 a, .int .i64 b] w fun e w' => e = .returned (.bool false) ∧ w = w' := by
  have d1 : decide (0 ≤ a) = false := decide_eq_false (by omega)
  go_enter Try.func21, Try.ntmps21
  go_wp2_with fail
  go_ret
  exact ⟨rfl, rfl⟩
theorem cperiod_b (a b : Int) (w : World) (h0 : 0 ≤ a) (h1 : b ≤ a) : Calls Try.prog 21 #[.int .i64 a, .int .i64 b] w fun e w' => e = .returned (.bool false) ∧ w = w' := by
  have d1 : decide (0 ≤ a) = true := decide_eq_true h0
  have d2 : decide (a < b) = false := decide_eq_false (by omega)
  go_enter Try.func21, Try.ntmps21
  go_wp2_with fail
  go_ret
  exact ⟨rfl, rfl⟩
theorem cperiod_c (a b : Int) (w : World) (h0 : 0 ≤ a) (h1 : a < b) (h2 : 2097152 < b) : Calls Try.prog 21 #[.int .i64 a, .int .i64 b] w fun e w' => e = .returned (.bool false) ∧ w = w' := by
  have d1 : decide (0 ≤ a) = true := decide_eq_true h0
  have d2 : decide (a < b) = true := decide_eq_true h1
  have d3 : decide (b ≤ 2097152) = false := decide_eq_false (by omega)
  go_enter Try.func21, Try.ntmps21
  go_wp2_with fail
  go_ret
  exact ⟨rfl, rfl⟩
theorem cperiod_d (a b : Int) (w : World) (h0 : 0 ≤ a) (h1 : a < b) (h2 : b ≤ 2097152) : Calls Try.prog 21 #[.int .i64 a, .int .i64 b] w fun e w' => e = .returned (.bool true) ∧ w = w' := by
  have d1 : decide (0 ≤ a) = true := decide_eq_true h0
  have d2 : decide (a < b) = true := decide_eq_true h1
  have d3 : decide (b ≤ 2097152) = true := decide_eq_true h2
  go_enter Try.func21, Try.ntmps21
  go_wp2_with fail
  go_ret
  exact ⟨rfl, rfl⟩
theorem cperiod_is (a b : Int) (v : Bool) (w : World) (hv : okP a b = v) : Calls Try.prog 21 #[.int .i64 a, .int .i64 b] w fun e w' => e = .returned (.bool v) ∧ w = w' := by
  subst hv
  by_cases h0 : 0 ≤ a
  case neg => rw [show okP a b = false by unfold okP; simp; omega]; exact cperiod_a a b w (by omega)
  by_cases h1 : a < b
  case neg => rw [show okP a b = false by unfold okP; simp; omega]; exact cperiod_b a b w h0 (by omega)
  by_cases h2 : b ≤ 2097152
  case neg => rw [show okP a b = false by unfold okP; simp; omega]; exact cperiod_c a b w h0 h1 (by omega)
  rw [okP_iff.2 ⟨h0, h1, h2⟩]; exact cperiod_d a b w h0 h1 h2
set_option maxRecDepth 100000 in
set_option maxHeartbeats 2000000 in
theorem cfol_lo (f u s a : Int) (w : World) (h : okR (f, u, s) = true) (ha : a ≤ f) :
    Calls Try.prog 23 #[.agg #[.int .i64 f, .int .i64 u, .int .i64 s], .int .i64 a] w fun e w' => e = .returned (.int .i64 (fol (f, u, s) a)) ∧ Below w.heap.size w w' := by
  obtain ⟨⟨g1, g2, g3⟩, g4, g5⟩ := okR_iff.1 h
  dsimp only at g1 g2 g3 g4 g5
  have e0 : fol (f, u, s) a = f := by unfold fol fol0; dsimp only; rw [if_neg (by omega), if_neg (by omega)]
  rw [e0]
  have d1 : decide (f < a) = false := decide_eq_false (by omega)
  have d2 : decide (u ≤ f) = false := decide_eq_false (by omega)
  clear e0 h
  go_enter Try.func23, Try.ntmps23
  go_wp2_with fail
  go_ret
  exact ⟨rfl, bel_alloc1 w _⟩
set_option maxRecDepth 100000 in
set_option maxHeartbeats 2000000 in
theorem cfol_hi (f u s a : Int) (w : World) (h : okR (f, u, s) = true) (ha : f < a) (hb : a ≤ 2097152) :
    Calls Try.prog 23 #[.agg #[.int .i64 f, .int .i64 u, .int .i64 s], .int .i64 a] w fun e w' => e = .returned (.int .i64 (fol (f, u, s) a)) ∧ Below w.heap.size w w' := by
  obtain ⟨⟨g1, g2, g3⟩, g4, g5⟩ := okR_iff.1 h
  dsimp only at g1 g2 g3 g4 g5
  obtain ⟨x, hx⟩ : ∃ x, a - f + s - 1 = x := ⟨_, rfl⟩
  obtain ⟨q, hq⟩ : ∃ q, x / s = q := ⟨_, rfl⟩
  obtain ⟨v, hv⟩ : ∃ v, q * s = v := ⟨_, rfl⟩
  have v0 : 0 ≤ v := by rw [← hv]; exact Int.mul_nonneg (by rw [← hq]; exact Int.ediv_nonneg (by omega) (by omega)) (by omega)
  have v1 : v ≤ x := by rw [← hv, ← hq]; exact Int.ediv_mul_le x (by omega)
  have q0 : 0 ≤ q := by rw [← hq]; exact Int.ediv_nonneg (by omega) (by omega)
  have q1 : q ≤ x := by rw [← hq]; exact Int.ediv_le_self s (by omega)
  have e0 : fol (f, u, s) a = if u ≤ f + v then 2097152 else f + v := by unfold fol fol0; dsimp only; rw [if_pos ha, hx, hq, hv]
  rw [e0]
  have t1 : Int.tdiv x s = q := by rw [Int.tdiv_eq_ediv_of_nonneg (by omega)]; exact hq
  have HX := Lib.hid hx; have HQ := Lib.hid hq; have HV := Lib.hid hv; have HT := Lib.hid t1
  have hw1 : IntKind.i64.wrap (a - f) = a - f := by rw [IntKind.wrap_i64]; omega
  have hw2 : IntKind.i64.wrap (a - f + s) = a - f + s := by rw [IntKind.wrap_i64]; omega
  have hw3 : IntKind.i64.wrap (a - f + s - 1) = x := by rw [IntKind.wrap_i64]; omega
  have hw4 : IntKind.i64.wrap q = q := by rw [IntKind.wrap_i64]; omega
  have hw5 : IntKind.i64.wrap (q * s) = v := by rw [hv, IntKind.wrap_i64]; omega
  have hw6 : IntKind.i64.wrap (f + v) = f + v := by rw [IntKind.wrap_i64]; omega
  have hs0 : ¬ s = 0 := by omega
  clear e0 h hx hq hv t1
  have d1 : decide (f < a) = true := decide_eq_true ha
  have C0 := Lib.hid (show Blk (w.alloc (.cells #[.int .i64 f, .int .i64 u, .int .i64 s] 40)) w.heap.size #[.int .i64 f, .int .i64 u, .int .i64 s] 40 from Blk.new w _ _)
  have B0 := Lib.hid (bel_alloc1 w (.cells #[.int .i64 f, .int .i64 u, .int .i64 s] 40))
  by_cases hu : u ≤ f + v
  · rw [if_pos hu]
    have d2 : decide (u ≤ f + v) = true := decide_eq_true hu
    go_enter Try.func23, Try.ntmps23
    go_upto_region 3 with fail
    refine wp_region_any (by kernel_rfl) ?_
    change wpAny _ _ _ _ _ _ _ (World.drew _)
    generalize hWD : World.drew _ = V
    have BX := Lib.hid (show Below w.heap.size w V by rw [← hWD]; exact B0.out.drew)
    have CX := Lib.hid (show Blk V w.heap.size #[.int .i64 f, .int .i64 u, .int .i64 s] 40 by rw [← hWD]; exact C0.out)
    obtain ⟨xb, hxb⟩ : ∃ xb, w.heap.size = xb := ⟨_, rfl⟩
    rw [hxb] at CX ⊢
    clear hWD
    have hCD : ∀ u, Ext V u → Ext V u := fun u hu => hu
    refine region_U (D := Ext V) (Ext V) [14] (Ext.refl V) ?_
    refine anyU_takeP (i := 0) (j := 14) (v := .int .i64 (f)) 11 [] rfl rfl (by kernel_rfl) (by kernel_rfl) (by kernel_rfl) (fun _ _ _ h => h) (by kernel_rfl) (Ext.stable _) hCD (yieldsU_val rfl (fun u hu => by go_simp)) ?_
    refine anyU_takeP (i := 1) (j := 14) (v := .int .i64 (a)) 12 [13, 10, 7, 6, 3] rfl rfl (by kernel_rfl) (by kernel_rfl) (by kernel_rfl) (fun _ _ _ h => h) (by kernel_rfl) (Ext.stable _) hCD (yieldsU_val rfl (fun u hu => by go_simp)) ?_
    refine anyU_takeP (i := 2) (j := 14) (v := .int .i64 (f)) 13 [13, 10, 7, 6, 3] rfl rfl (by kernel_rfl) (by kernel_rfl) (by kernel_rfl) (fun _ _ _ h => h) (by kernel_rfl) (Ext.stable _) hCD (yieldsU_val rfl (fun u hu => by go_simp)) ?_
    refine anyU_takeP (i := 3) (j := 14) (v := .int .i64 (a - f)) 14 [13, 10, 7, 6] rfl rfl (by kernel_rfl) (by kernel_rfl) (by kernel_rfl) (fun _ _ _ h => h) (by kernel_rfl) (Ext.stable _) hCD (yieldsU_val rfl (fun u hu => by go_simp)) ?_
    refine anyU_takeP (i := 4) (j := 14) (v := .pointer (some ⟨xb, 2, none⟩)) 15 [13, 10, 7, 6, 5] rfl rfl (by kernel_rfl) (by kernel_rfl) (by kernel_rfl) (fun _ _ _ h => h) (by kernel_rfl) (Ext.stable _) hCD (yieldsU_val rfl (fun u hu => by go_simp)) ?_
    refine anyU_takeP (i := 5) (j := 14) (v := .int .i64 (s)) 16 [13, 10, 7, 6] rfl rfl (by kernel_rfl) (by kernel_rfl) (by kernel_rfl) (fun _ _ _ h => h) (by kernel_rfl) (Ext.stable _) hCD (yieldsU_val rfl (fun u hu => by have cc := (CX.out.below hu CX.out.lt).cell 2; go_simp)) ?_
    refine anyU_takeP (i := 6) (j := 14) (v := .int .i64 (a - f + s)) 17 [13, 10, 7] rfl rfl (by kernel_rfl) (by kernel_rfl) (by kernel_rfl) (fun _ _ _ h => h) (by kernel_rfl) (Ext.stable _) hCD (yieldsU_val rfl (fun u hu => by go_simp)) ?_
    simp only [Act.put, List.setIfInBounds_toArray, List.set_cons_succ, List.set_cons_zero]
    refine anyU_takeP (i := 7) (j := 14) (v := .int .i64 (x)) 18 [13, 10] rfl rfl (by kernel_rfl) (by kernel_rfl) (by kernel_rfl) (fun _ _ _ h => h) (by kernel_rfl) (Ext.stable _) hCD (yieldsU_val rfl (fun u hu => by go_simp)) ?_
    refine anyU_takeP (i := 8) (j := 14) (v := .pointer (some ⟨xb, 2, none⟩)) 19 [13, 10, 9] rfl rfl (by kernel_rfl) (by kernel_rfl) (by kernel_rfl) (fun _ _ _ h => h) (by kernel_rfl) (Ext.stable _) hCD (yieldsU_val rfl (fun u hu => by go_simp)) ?_
    refine anyU_takeP (i := 9) (j := 14) (v := .int .i64 (s)) 20 [13, 10] rfl rfl (by kernel_rfl) (by kernel_rfl) (by kernel_rfl) (fun _ _ _ h => h) (by kernel_rfl) (Ext.stable _) hCD (yieldsU_val rfl (fun u hu => by have cc := (CX.out.below hu CX.out.lt).cell 2; go_simp)) ?_
    refine anyU_takeP (i := 10) (j := 14) (v := .int .i64 (q)) 21 [13] rfl rfl (by kernel_rfl) (by kernel_rfl) (by kernel_rfl) (fun _ _ _ h => h) (by kernel_rfl) (Ext.stable _) hCD (yieldsU_val rfl (fun u hu => by have t1 := HT.out; go_simp)) ?_
    refine anyU_takeP (i := 11) (j := 14) (v := .pointer (some ⟨xb, 2, none⟩)) 22 [13, 12] rfl rfl (by kernel_rfl) (by kernel_rfl) (by kernel_rfl) (fun _ _ _ h => h) (by kernel_rfl) (Ext.stable _) hCD (yieldsU_val rfl (fun u hu => by go_simp)) ?_
    refine anyU_takeP (i := 12) (j := 14) (v := .int .i64 (s)) 23 [13] rfl rfl (by kernel_rfl) (by kernel_rfl) (by kernel_rfl) (fun _ _ _ h => h) (by kernel_rfl) (Ext.stable _) hCD (yieldsU_val rfl (fun u hu => by have cc := (CX.out.below hu CX.out.lt).cell 2; go_simp)) ?_
    simp only [Act.put, List.setIfInBounds_toArray, List.set_cons_succ, List.set_cons_zero]
    refine anyU_takeP (i := 13) (j := 14) (v := .int .i64 (v)) 24 [] rfl rfl (by kernel_rfl) (by kernel_rfl) (by kernel_rfl) (fun _ _ _ h => h) (by kernel_rfl) (Ext.stable _) hCD (yieldsU_val rfl (fun u hu => by go_simp)) ?_
    refine anyU_tail 14 [15] rfl rfl (by decide) (by kernel_rfl) ?_
    intro z hz
    simp only [Act.put, List.filterMap_cons, List.filterMap_nil, List.getElem?_cons_succ, List.getElem?_cons_zero]
    have BU := Lib.hid (BX.out.trans (hz.mono (by have := BX.out.size; omega)))
    have c1 := (CX.out.below hz CX.out.lt).cell 1
    clear hz CX
    go_wp2_with fail
    go_ret
    exact ⟨rfl, by first | exact BU.out | (rw [← hxb]; exact BU.out)⟩
  · rw [if_neg hu]
    have d2 : decide (u ≤ f + v) = false := decide_eq_false hu
    go_enter Try.func23, Try.ntmps23
    go_upto_region 3 with fail
    refine wp_region_any (by kernel_rfl) ?_
    change wpAny _ _ _ _ _ _ _ (World.drew _)
    generalize hWD : World.drew _ = V
    have BX := Lib.hid (show Below w.heap.size w V by rw [← hWD]; exact B0.out.drew)
    have CX := Lib.hid (show Blk V w.heap.size #[.int .i64 f, .int .i64 u, .int .i64 s] 40 by rw [← hWD]; exact C0.out)
    obtain ⟨xb, hxb⟩ : ∃ xb, w.heap.size = xb := ⟨_, rfl⟩
    rw [hxb] at CX ⊢
    clear hWD
    have hCD : ∀ u, Ext V u → Ext V u := fun u hu => hu
    refine region_U (D := Ext V) (Ext V) [14] (Ext.refl V) ?_
    refine anyU_takeP (i := 0) (j := 14) (v := .int .i64 (f)) 11 [] rfl rfl (by kernel_rfl) (by kernel_rfl) (by kernel_rfl) (fun _ _ _ h => h) (by kernel_rfl) (Ext.stable _) hCD (yieldsU_val rfl (fun u hu => by go_simp)) ?_
    refine anyU_takeP (i := 1) (j := 14) (v := .int .i64 (a)) 12 [13, 10, 7, 6, 3] rfl rfl (by kernel_rfl) (by kernel_rfl) (by kernel_rfl) (fun _ _ _ h => h) (by kernel_rfl) (Ext.stable _) hCD (yieldsU_val rfl (fun u hu => by go_simp)) ?_
    refine anyU_takeP (i := 2) (j := 14) (v := .int .i64 (f)) 13 [13, 10, 7, 6, 3] rfl rfl (by kernel_rfl) (by kernel_rfl) (by kernel_rfl) (fun _ _ _ h => h) (by kernel_rfl) (Ext.stable _) hCD (yieldsU_val rfl (fun u hu => by go_simp)) ?_
    refine anyU_takeP (i := 3) (j := 14) (v := .int .i64 (a - f)) 14 [13, 10, 7, 6] rfl rfl (by kernel_rfl) (by kernel_rfl) (by kernel_rfl) (fun _ _ _ h => h) (by kernel_rfl) (Ext.stable _) hCD (yieldsU_val rfl (fun u hu => by go_simp)) ?_
    refine anyU_takeP (i := 4) (j := 14) (v := .pointer (some ⟨xb, 2, none⟩)) 15 [13, 10, 7, 6, 5] rfl rfl (by kernel_rfl) (by kernel_rfl) (by kernel_rfl) (fun _ _ _ h => h) (by kernel_rfl) (Ext.stable _) hCD (yieldsU_val rfl (fun u hu => by go_simp)) ?_
    refine anyU_takeP (i := 5) (j := 14) (v := .int .i64 (s)) 16 [13, 10, 7, 6] rfl rfl (by kernel_rfl) (by kernel_rfl) (by kernel_rfl) (fun _ _ _ h => h) (by kernel_rfl) (Ext.stable _) hCD (yieldsU_val rfl (fun u hu => by have cc := (CX.out.below hu CX.out.lt).cell 2; go_simp)) ?_
    refine anyU_takeP (i := 6) (j := 14) (v := .int .i64 (a - f + s)) 17 [13, 10, 7] rfl rfl (by kernel_rfl) (by kernel_rfl) (by kernel_rfl) (fun _ _ _ h => h) (by kernel_rfl) (Ext.stable _) hCD (yieldsU_val rfl (fun u hu => by go_simp)) ?_
    simp only [Act.put, List.setIfInBounds_toArray, List.set_cons_succ, List.set_cons_zero]
    refine anyU_takeP (i := 7) (j := 14) (v := .int .i64 (x)) 18 [13, 10] rfl rfl (by kernel_rfl) (by kernel_rfl) (by kernel_rfl) (fun _ _ _ h => h) (by kernel_rfl) (Ext.stable _) hCD (yieldsU_val rfl (fun u hu => by go_simp)) ?_
    refine anyU_takeP (i := 8) (j := 14) (v := .pointer (some ⟨xb, 2, none⟩)) 19 [13, 10, 9] rfl rfl (by kernel_rfl) (by kernel_rfl) (by kernel_rfl) (fun _ _ _ h => h) (by kernel_rfl) (Ext.stable _) hCD (yieldsU_val rfl (fun u hu => by go_simp)) ?_
    refine anyU_takeP (i := 9) (j := 14) (v := .int .i64 (s)) 20 [13, 10] rfl rfl (by kernel_rfl) (by kernel_rfl) (by kernel_rfl) (fun _ _ _ h => h) (by kernel_rfl) (Ext.stable _) hCD (yieldsU_val rfl (fun u hu => by have cc := (CX.out.below hu CX.out.lt).cell 2; go_simp)) ?_
    refine anyU_takeP (i := 10) (j := 14) (v := .int .i64 (q)) 21 [13] rfl rfl (by kernel_rfl) (by kernel_rfl) (by kernel_rfl) (fun _ _ _ h => h) (by kernel_rfl) (Ext.stable _) hCD (yieldsU_val rfl (fun u hu => by have t1 := HT.out; go_simp)) ?_
    refine anyU_takeP (i := 11) (j := 14) (v := .pointer (some ⟨xb, 2, none⟩)) 22 [13, 12] rfl rfl (by kernel_rfl) (by kernel_rfl) (by kernel_rfl) (fun _ _ _ h => h) (by kernel_rfl) (Ext.stable _) hCD (yieldsU_val rfl (fun u hu => by go_simp)) ?_
    refine anyU_takeP (i := 12) (j := 14) (v := .int .i64 (s)) 23 [13] rfl rfl (by kernel_rfl) (by kernel_rfl) (by kernel_rfl) (fun _ _ _ h => h) (by kernel_rfl) (Ext.stable _) hCD (yieldsU_val rfl (fun u hu => by have cc := (CX.out.below hu CX.out.lt).cell 2; go_simp)) ?_
    simp only [Act.put, List.setIfInBounds_toArray, List.set_cons_succ, List.set_cons_zero]
    refine anyU_takeP (i := 13) (j := 14) (v := .int .i64 (v)) 24 [] rfl rfl (by kernel_rfl) (by kernel_rfl) (by kernel_rfl) (fun _ _ _ h => h) (by kernel_rfl) (Ext.stable _) hCD (yieldsU_val rfl (fun u hu => by go_simp)) ?_
    refine anyU_tail 14 [15] rfl rfl (by decide) (by kernel_rfl) ?_
    intro z hz
    simp only [Act.put, List.filterMap_cons, List.filterMap_nil, List.getElem?_cons_succ, List.getElem?_cons_zero]
    have BU := Lib.hid (BX.out.trans (hz.mono (by have := BX.out.size; omega)))
    have c1 := (CX.out.below hz CX.out.lt).cell 1
    clear hz CX
    go_wp2_with fail
    go_ret
    exact ⟨rfl, by first | exact BU.out | (rw [← hxb]; exact BU.out)⟩
theorem cfol_is (r : Rl) (a : Int) (w : World) (h : okR r = true) (hb : a ≤ 2097152) :
    Calls Try.prog 23 #[.agg #[.int .i64 r.1, .int .i64 r.2.1, .int .i64 r.2.2], .int .i64 a] w fun e w' => e = .returned (.int .i64 (fol r a)) ∧ Below w.heap.size w w' := by
  obtain ⟨f, u, s⟩ := r
  by_cases ha : f < a
  · exact cfol_hi f u s a w h ha hb
  · exact cfol_lo f u s a w h (by omega)
theorem take_snocZ {α : Type} {zs : List α} {k : Nat} {d : α} (h : k < zs.length) : zs.take (k + 1) = zs.take k ++ [zs.getD k d] := by
  rw [List.take_add_one, List.getElem?_eq_getElem h]; simp [List.getD, h]
set_option maxRecDepth 100000 in
set_option maxHeartbeats 2000000 in
theorem cearl_is (p : Option Addr) (n c : Nat) (zs : List Int) (w : World) (hn : Hid (n = zs.length)) (h16 : n ≤ 100) (hnc : n ≤ c) (hcm : c ≤ 1000) (hrow : Hid (n = 0 ∨ ∃ b off, p = some ⟨b, off, none⟩ ∧ IntsAt w b off zs)) :
    Calls Try.prog 24 #[.slice p n c] w fun e w' => e = .returned (.int .i64 (zs.foldl min 2097152)) ∧ w = w' := by
  go_enter Try.func24, Try.ntmps24
  go_wp2_with fail
  go_loopw [3, 8] (fun f i wr => ∃ (k : Nat) (m : Int), k ≤ n ∧ f = .int .i64 m ∧ i = .int .i64 (k : Int) ∧ Hid ((zs.take k).foldl min 2097152 = m) ∧ w = wr) (fun _ i _ => n - (intOf i).toNat)
  case atStart => exact ⟨0, 2097152, by omega, rfl, by simp, Lib.hid rfl, rfl⟩
  case round =>
    obtain ⟨k, m, hk, rfl, rfl, HM, rfl⟩ := hrel
    by_cases hlt : k < n
    · obtain ⟨b, off, hp, ha⟩ := hrow.out.resolve_left (by omega)
      have hkl : k < zs.length := by have := hn.out; omega
      have cc := ha k hkl
      have HT := Lib.hid (take_snocZ (d := 0) hkl)
      obtain ⟨z, hz⟩ : ∃ z, zs.getD k 0 = z := ⟨_, rfl⟩
      rw [hz] at cc HT
      subst hp
      clear ha hz
      go_wp2_with fail
      go_roundw
      case rel => exact ⟨k + 1, if z < m then z else m, by omega, rfl, by simp, Lib.hid (by rw [HT.out, List.foldl_append, HM.out]; show min m z = _; split <;> omega), by first | rfl | trivial⟩
      case measure => simp [intOf]; omega
    · have hnk : k = n := by omega
      have HE := Lib.hid (show zs.foldl min 2097152 = m by rw [← HM.out, List.take_of_length_le (by have := hn.out; omega)])
      have hd : decide ((k : Int) < (n : Int)) = false := decide_eq_false (by omega)
      clear hnk
      go_wp2_with fail
      go_ret
      rw [HE.out]
      exact ⟨rfl, rfl⟩
end Go.Proofs.Ytilokkkodocoiaa
