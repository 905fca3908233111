/- The reference: least, next. -/
import Derived.Test.YtilokkkodocoiaaCalNxt
namespace Go.Proofs.Ytilokkkodocoiaa
open Go.RowKit
set_option linter.unusedVariables false
set_option linter.unusedSimpArgs false

set_option maxRecDepth 100000 in
set_option maxHeartbeats 2000000 in
theorem rlst_lo (f u s a : Int) (w : World) (h : okR (f, u, s) = true) (ha : a ≤ f) :
    Calls Try.prog 25 #[.agg #[.int .i64 f, .int .i64 u, .int .i64 s], .int .i64 a] w fun e w' => e = .returned (.int .i64 (fol (f, u, s) a)) ∧ Below w.heap.size w w' := by
  obtain ⟨⟨g1, g2, g3⟩, g4, g5⟩ := okR_iff.1 h
  dsimp only at g1 g2 g3 g4 g5
  have e0 : fol (f, u, s) a = f := by unfold fol fol0; dsimp only; rw [if_neg (by omega), if_neg (by omega)]
  rw [e0]
  have d1 : decide (f < a) = false := decide_eq_false (by omega)
  have d2 : decide (u ≤ f) = false := decide_eq_false (by omega)
  clear e0 h
  go_enter Try.func25, Try.ntmps25
  go_wp2_with fail
  go_ret
  exact ⟨rfl, bel_alloc1 w _⟩
set_option maxRecDepth 100000 in
set_option maxHeartbeats 2000000 in
theorem rlst_hi (f u s a : Int) (w : World) (h : okR (f, u, s) = true) (ha : f < a) (hb : a ≤ 2097152) :
    Calls Try.prog 25 #[.agg #[.int .i64 f, .int .i64 u, .int .i64 s], .int .i64 a] w fun e w' => e = .returned (.int .i64 (fol (f, u, s) a)) ∧ Below w.heap.size w w' := by
  obtain ⟨⟨g1, g2, g3⟩, g4, g5⟩ := okR_iff.1 h
  dsimp only at g1 g2 g3 g4 g5
  obtain ⟨x, hx⟩ : ∃ x, a - f + s - 1 = x := ⟨_, rfl⟩
  obtain ⟨q, hq⟩ : ∃ q, x / s = q := ⟨_, rfl⟩
  obtain ⟨v, hv⟩ : ∃ v, q * s = v := ⟨_, rfl⟩
  have v0 : 0 ≤ v := by rw [← hv]; exact Int.mul_nonneg (by rw [← hq]; exact Int.ediv_nonneg (by omega) (by omega)) (by omega)
  have v1 : v ≤ x := by rw [← hv, ← hq]; exact Int.ediv_mul_le x (by omega)
  have q0 : 0 ≤ q := by rw [← hq]; exact Int.ediv_nonneg (by omega) (by omega)
  have q1 : q ≤ x := by rw [← hq]; exact Int.ediv_le_self s (by omega)
  have e0 : fol (f, u, s) a = if u ≤ f + v then 2097152 else f + v := by unfold fol fol0; dsimp only; rw [if_pos ha, hx, hq, hv]
  rw [e0]
  have t1 : Int.tdiv x s = q := by rw [Int.tdiv_eq_ediv_of_nonneg (by omega)]; exact hq
  have HX := Lib.hid hx; have HQ := Lib.hid hq; have HV := Lib.hid hv; have HT := Lib.hid t1
  have hw1 : IntKind.i64.wrap (a - f) = a - f := by rw [IntKind.wrap_i64]; omega
  have hw2 : IntKind.i64.wrap (a - f + s) = a - f + s := by rw [IntKind.wrap_i64]; omega
  have hw3 : IntKind.i64.wrap (a - f + s - 1) = x := by rw [IntKind.wrap_i64]; omega
  have hw4 : IntKind.i64.wrap q = q := by rw [IntKind.wrap_i64]; omega
  have hw5 : IntKind.i64.wrap (q * s) = v := by rw [hv, IntKind.wrap_i64]; omega
  have hw6 : IntKind.i64.wrap (f + v) = f + v := by rw [IntKind.wrap_i64]; omega
  have hs0 : ¬ s = 0 := by omega
  clear e0 h hx hq hv t1
  have d1 : decide (f < a) = true := decide_eq_true ha
  have C0 := Lib.hid (show Blk (w.alloc (.cells #[.int .i64 f, .int .i64 u, .int .i64 s] 40)) w.heap.size #[.int .i64 f, .int .i64 u, .int .i64 s] 40 from Blk.new w _ _)
  have B0 := Lib.hid (bel_alloc1 w (.cells #[.int .i64 f, .int .i64 u, .int .i64 s] 40))
  by_cases hu : u ≤ f + v
  · rw [if_pos hu]
    have d2 : decide (u ≤ f + v) = true := decide_eq_true hu
    go_enter Try.func25, Try.ntmps25
    go_upto_region 3 with fail
    refine wp_region_any (by kernel_rfl) ?_
    change wpAny _ _ _ _ _ _ _ (World.drew _)
    generalize hWD : World.drew _ = V
    have BX := Lib.hid (show Below w.heap.size w V by rw [← hWD]; exact B0.out.drew)
    have CX := Lib.hid (show Blk V w.heap.size #[.int .i64 f, .int .i64 u, .int .i64 s] 40 by rw [← hWD]; exact C0.out)
    obtain ⟨xb, hxb⟩ : ∃ xb, w.heap.size = xb := ⟨_, rfl⟩
    rw [hxb] at CX ⊢
    clear hWD
    have hCD : ∀ u, Ext V u → Ext V u := fun u hu => hu
    refine region_U (D := Ext V) (Ext V) [16] (Ext.refl V) ?_
    refine anyU_takeP (i := 0) (j := 16) (v := .pointer (some ⟨xb, 0, none⟩)) 11 [1] rfl rfl (by kernel_rfl) (by kernel_rfl) (by kernel_rfl) (fun _ _ _ h => h) (by kernel_rfl) (Ext.stable _) hCD (yieldsU_val rfl (fun u hu => by go_simp)) ?_
    refine anyU_takeP (i := 1) (j := 16) (v := .int .i64 (f)) 12 [] rfl rfl (by kernel_rfl) (by kernel_rfl) (by kernel_rfl) (fun _ _ _ h => h) (by kernel_rfl) (Ext.stable _) hCD (yieldsU_val rfl (fun u hu => by have cc := (CX.out.below hu CX.out.lt).cell 0; go_simp)) ?_
    refine anyU_takeP (i := 2) (j := 16) (v := .int .i64 (a)) 13 [15, 12, 9, 8, 5] rfl rfl (by kernel_rfl) (by kernel_rfl) (by kernel_rfl) (fun _ _ _ h => h) (by kernel_rfl) (Ext.stable _) hCD (yieldsU_val rfl (fun u hu => by go_simp)) ?_
    refine anyU_takeP (i := 3) (j := 16) (v := .pointer (some ⟨xb, 0, none⟩)) 14 [15, 12, 9, 8, 5, 4] rfl rfl (by kernel_rfl) (by kernel_rfl) (by kernel_rfl) (fun _ _ _ h => h) (by kernel_rfl) (Ext.stable _) hCD (yieldsU_val rfl (fun u hu => by go_simp)) ?_
    refine anyU_takeP (i := 4) (j := 16) (v := .int .i64 (f)) 15 [15, 12, 9, 8, 5] rfl rfl (by kernel_rfl) (by kernel_rfl) (by kernel_rfl) (fun _ _ _ h => h) (by kernel_rfl) (Ext.stable _) hCD (yieldsU_val rfl (fun u hu => by have cc := (CX.out.below hu CX.out.lt).cell 0; go_simp)) ?_
    refine anyU_takeP (i := 5) (j := 16) (v := .int .i64 (a - f)) 16 [15, 12, 9, 8] rfl rfl (by kernel_rfl) (by kernel_rfl) (by kernel_rfl) (fun _ _ _ h => h) (by kernel_rfl) (Ext.stable _) hCD (yieldsU_val rfl (fun u hu => by go_simp)) ?_
    simp only [Act.put, List.setIfInBounds_toArray, List.set_cons_succ, List.set_cons_zero]
    refine anyU_takeP (i := 6) (j := 16) (v := .pointer (some ⟨xb, 2, none⟩)) 17 [15, 12, 9, 8, 7] rfl rfl (by kernel_rfl) (by kernel_rfl) (by kernel_rfl) (fun _ _ _ h => h) (by kernel_rfl) (Ext.stable _) hCD (yieldsU_val rfl (fun u hu => by go_simp)) ?_
    refine anyU_takeP (i := 7) (j := 16) (v := .int .i64 (s)) 18 [15, 12, 9, 8] rfl rfl (by kernel_rfl) (by kernel_rfl) (by kernel_rfl) (fun _ _ _ h => h) (by kernel_rfl) (Ext.stable _) hCD (yieldsU_val rfl (fun u hu => by have cc := (CX.out.below hu CX.out.lt).cell 2; go_simp)) ?_
    refine anyU_takeP (i := 8) (j := 16) (v := .int .i64 (a - f + s)) 19 [15, 12, 9] rfl rfl (by kernel_rfl) (by kernel_rfl) (by kernel_rfl) (fun _ _ _ h => h) (by kernel_rfl) (Ext.stable _) hCD (yieldsU_val rfl (fun u hu => by go_simp)) ?_
    refine anyU_takeP (i := 9) (j := 16) (v := .int .i64 (x)) 20 [15, 12] rfl rfl (by kernel_rfl) (by kernel_rfl) (by kernel_rfl) (fun _ _ _ h => h) (by kernel_rfl) (Ext.stable _) hCD (yieldsU_val rfl (fun u hu => by go_simp)) ?_
    simp only [Act.put, List.setIfInBounds_toArray, List.set_cons_succ, List.set_cons_zero]
    refine anyU_takeP (i := 10) (j := 16) (v := .pointer (some ⟨xb, 2, none⟩)) 21 [15, 12, 11] rfl rfl (by kernel_rfl) (by kernel_rfl) (by kernel_rfl) (fun _ _ _ h => h) (by kernel_rfl) (Ext.stable _) hCD (yieldsU_val rfl (fun u hu => by go_simp)) ?_
    refine anyU_takeP (i := 11) (j := 16) (v := .int .i64 (s)) 22 [15, 12] rfl rfl (by kernel_rfl) (by kernel_rfl) (by kernel_rfl) (fun _ _ _ h => h) (by kernel_rfl) (Ext.stable _) hCD (yieldsU_val rfl (fun u hu => by have cc := (CX.out.below hu CX.out.lt).cell 2; go_simp)) ?_
    refine anyU_takeP (i := 12) (j := 16) (v := .int .i64 (q)) 23 [15] rfl rfl (by kernel_rfl) (by kernel_rfl) (by kernel_rfl) (fun _ _ _ h => h) (by kernel_rfl) (Ext.stable _) hCD (yieldsU_val rfl (fun u hu => by have t1 := HT.out; go_simp)) ?_
    refine anyU_takeP (i := 13) (j := 16) (v := .pointer (some ⟨xb, 2, none⟩)) 24 [15, 14] rfl rfl (by kernel_rfl) (by kernel_rfl) (by kernel_rfl) (fun _ _ _ h => h) (by kernel_rfl) (Ext.stable _) hCD (yieldsU_val rfl (fun u hu => by go_simp)) ?_
    refine anyU_takeP (i := 14) (j := 16) (v := .int .i64 (s)) 25 [15] rfl rfl (by kernel_rfl) (by kernel_rfl) (by kernel_rfl) (fun _ _ _ h => h) (by kernel_rfl) (Ext.stable _) hCD (yieldsU_val rfl (fun u hu => by have cc := (CX.out.below hu CX.out.lt).cell 2; go_simp)) ?_
    simp only [Act.put, List.setIfInBounds_toArray, List.set_cons_succ, List.set_cons_zero]
    refine anyU_takeP (i := 15) (j := 16) (v := .int .i64 (v)) 26 [] rfl rfl (by kernel_rfl) (by kernel_rfl) (by kernel_rfl) (fun _ _ _ h => h) (by kernel_rfl) (Ext.stable _) hCD (yieldsU_val rfl (fun u hu => by go_simp)) ?_
    refine anyU_tail 16 [17] rfl rfl (by decide) (by kernel_rfl) ?_
    intro z hz
    simp only [Act.put, List.filterMap_cons, List.filterMap_nil, List.getElem?_cons_succ, List.getElem?_cons_zero]
    have BU := Lib.hid (BX.out.trans (hz.mono (by have := BX.out.size; omega)))
    have c1 := (CX.out.below hz CX.out.lt).cell 1
    clear hz CX
    go_wp2_with fail
    go_ret
    exact ⟨rfl, by first | exact BU.out | (rw [← hxb]; exact BU.out)⟩
  · rw [if_neg hu]
    have d2 : decide (u ≤ f + v) = false := decide_eq_false hu
    go_enter Try.func25, Try.ntmps25
    go_upto_region 3 with fail
    refine wp_region_any (by kernel_rfl) ?_
    change wpAny _ _ _ _ _ _ _ (World.drew _)
    generalize hWD : World.drew _ = V
    have BX := Lib.hid (show Below w.heap.size w V by rw [← hWD]; exact B0.out.drew)
    have CX := Lib.hid (show Blk V w.heap.size #[.int .i64 f, .int .i64 u, .int .i64 s] 40 by rw [← hWD]; exact C0.out)
    obtain ⟨xb, hxb⟩ : ∃ xb, w.heap.size = xb := ⟨_, rfl⟩
    rw [hxb] at CX ⊢
    clear hWD
    have hCD : ∀ u, Ext V u → Ext V u := fun u hu => hu
    refine region_U (D := Ext V) (Ext V) [16] (Ext.refl V) ?_
    refine anyU_takeP (i := 0) (j := 16) (v := .pointer (some ⟨xb, 0, none⟩)) 11 [1] rfl rfl (by kernel_rfl) (by kernel_rfl) (by kernel_rfl) (fun _ _ _ h => h) (by kernel_rfl) (Ext.stable _) hCD (yieldsU_val rfl (fun u hu => by go_simp)) ?_
    refine anyU_takeP (i := 1) (j := 16) (v := .int .i64 (f)) 12 [] rfl rfl (by kernel_rfl) (by kernel_rfl) (by kernel_rfl) (fun _ _ _ h => h) (by kernel_rfl) (Ext.stable _) hCD (yieldsU_val rfl (fun u hu => by have cc := (CX.out.below hu CX.out.lt).cell 0; go_simp)) ?_
    refine anyU_takeP (i := 2) (j := 16) (v := .int .i64 (a)) 13 [15, 12, 9, 8, 5] rfl rfl (by kernel_rfl) (by kernel_rfl) (by kernel_rfl) (fun _ _ _ h => h) (by kernel_rfl) (Ext.stable _) hCD (yieldsU_val rfl (fun u hu => by go_simp)) ?_
    refine anyU_takeP (i := 3) (j := 16) (v := .pointer (some ⟨xb, 0, none⟩)) 14 [15, 12, 9, 8, 5, 4] rfl rfl (by kernel_rfl) (by kernel_rfl) (by kernel_rfl) (fun _ _ _ h => h) (by kernel_rfl) (Ext.stable _) hCD (yieldsU_val rfl (fun u hu => by go_simp)) ?_
    refine anyU_takeP (i := 4) (j := 16) (v := .int .i64 (f)) 15 [15, 12, 9, 8, 5] rfl rfl (by kernel_rfl) (by kernel_rfl) (by kernel_rfl) (fun _ _ _ h => h) (by kernel_rfl) (Ext.stable _) hCD (yieldsU_val rfl (fun u hu => by have cc := (CX.out.below hu CX.out.lt).cell 0; go_simp)) ?_
    refine anyU_takeP (i := 5) (j := 16) (v := .int .i64 (a - f)) 16 [15, 12, 9, 8] rfl rfl (by kernel_rfl) (by kernel_rfl) (by kernel_rfl) (fun _ _ _ h => h) (by kernel_rfl) (Ext.stable _) hCD (yieldsU_val rfl (fun u hu => by go_simp)) ?_
    simp only [Act.put, List.setIfInBounds_toArray, List.set_cons_succ, List.set_cons_zero]
    refine anyU_takeP (i := 6) (j := 16) (v := .pointer (some ⟨xb, 2, none⟩)) 17 [15, 12, 9, 8, 7] rfl rfl (by kernel_rfl) (by kernel_rfl) (by kernel_rfl) (fun _ _ _ h => h) (by kernel_rfl) (Ext.stable _) hCD (yieldsU_val rfl (fun u hu => by go_simp)) ?_
    refine anyU_takeP (i := 7) (j := 16) (v := .int .i64 (s)) 18 [15, 12, 9, 8] rfl rfl (by kernel_rfl) (by kernel_rfl) (by kernel_rfl) (fun _ _ _ h => h) (by kernel_rfl) (Ext.stable _) hCD (yieldsU_val rfl (fun u hu => by have cc := (CX.out.below hu CX.out.lt).cell 2; go_simp)) ?_
    refine anyU_takeP (i := 8) (j := 16) (v := .int .i64 (a - f + s)) 19 [15, 12, 9] rfl rfl (by kernel_rfl) (by kernel_rfl) (by kernel_rfl) (fun _ _ _ h => h) (by kernel_rfl) (Ext.stable _) hCD (yieldsU_val rfl (fun u hu => by go_simp)) ?_
    refine anyU_takeP (i := 9) (j := 16) (v := .int .i64 (x)) 20 [15, 12] rfl rfl (by kernel_rfl) (by kernel_rfl) (by kernel_rfl) (fun _ _ _ h => h) (by kernel_rfl) (Ext.stable _) hCD (yieldsU_val rfl (fun u hu => by go_simp)) ?_
    simp only [Act.put, List.setIfInBounds_toArray, List.set_cons_succ, List.set_cons_zero]
    refine anyU_takeP (i := 10) (j := 16) (v := .pointer (some ⟨xb, 2, none⟩)) 21 [15, 12, 11] rfl rfl (by kernel_rfl) (by kernel_rfl) (by kernel_rfl) (fun _ _ _ h => h) (by kernel_rfl) (Ext.stable _) hCD (yieldsU_val rfl (fun u hu => by go_simp)) ?_
    refine anyU_takeP (i := 11) (j := 16) (v := .int .i64 (s)) 22 [15, 12] rfl rfl (by kernel_rfl) (by kernel_rfl) (by kernel_rfl) (fun _ _ _ h => h) (by kernel_rfl) (Ext.stable _) hCD (yieldsU_val rfl (fun u hu => by have cc := (CX.out.below hu CX.out.lt).cell 2; go_simp)) ?_
    refine anyU_takeP (i := 12) (j := 16) (v := .int .i64 (q)) 23 [15] rfl rfl (by kernel_rfl) (by kernel_rfl) (by kernel_rfl) (fun _ _ _ h => h) (by kernel_rfl) (Ext.stable _) hCD (yieldsU_val rfl (fun u hu => by have t1 := HT.out; go_simp)) ?_
    refine anyU_takeP (i := 13) (j := 16) (v := .pointer (some ⟨xb, 2, none⟩)) 24 [15, 14] rfl rfl (by kernel_rfl) (by kernel_rfl) (by kernel_rfl) (fun _ _ _ h => h) (by kernel_rfl) (Ext.stable _) hCD (yieldsU_val rfl (fun u hu => by go_simp)) ?_
    refine anyU_takeP (i := 14) (j := 16) (v := .int .i64 (s)) 25 [15] rfl rfl (by kernel_rfl) (by kernel_rfl) (by kernel_rfl) (fun _ _ _ h => h) (by kernel_rfl) (Ext.stable _) hCD (yieldsU_val rfl (fun u hu => by have cc := (CX.out.below hu CX.out.lt).cell 2; go_simp)) ?_
    simp only [Act.put, List.setIfInBounds_toArray, List.set_cons_succ, List.set_cons_zero]
    refine anyU_takeP (i := 15) (j := 16) (v := .int .i64 (v)) 26 [] rfl rfl (by kernel_rfl) (by kernel_rfl) (by kernel_rfl) (fun _ _ _ h => h) (by kernel_rfl) (Ext.stable _) hCD (yieldsU_val rfl (fun u hu => by go_simp)) ?_
    refine anyU_tail 16 [17] rfl rfl (by decide) (by kernel_rfl) ?_
    intro z hz
    simp only [Act.put, List.filterMap_cons, List.filterMap_nil, List.getElem?_cons_succ, List.getElem?_cons_zero]
    have BU := Lib.hid (BX.out.trans (hz.mono (by have := BX.out.size; omega)))
    have c1 := (CX.out.below hz CX.out.lt).cell 1
    clear hz CX
    go_wp2_with fail
    go_ret
    exact ⟨rfl, by first | exact BU.out | (rw [← hxb]; exact BU.out)⟩
theorem rlst_is (r : Rl) (a : Int) (w : World) (h : okR r = true) (hb : a ≤ 2097152) :
    Calls Try.prog 25 #[.agg #[.int .i64 r.1, .int .i64 r.2.1, .int .i64 r.2.2], .int .i64 a] w fun e w' => e = .returned (.int .i64 (fol r a)) ∧ Below w.heap.size w w' := by
  obtain ⟨f, u, s⟩ := r
  by_cases ha : f < a
  · exact rlst_hi f u s a w h ha hb
  · exact rlst_lo f u s a w h (by omega)
theorem nx_hit {rs : List Rl} {gs : List Gp} {a t M : Int} (hv : Valid rs gs) (ht : t ≤ 2097152) (h : depL rs gs a = depL rs gs t) (hM : folM rs t = M) (hg : gs.any (gapB · M) = false) : nx rs gs a = M := by
  unfold nx
  have hb := folM_lo hv ht
  rw [hM] at hb
  rw [h, folM_skip hv ht, hM]
  by_cases hE : M < 2097152
  · have hd : depB rs gs M = true := by
      unfold depB
      rw [hg]
      have := folM_hit hv ht (by rw [hM]; exact hE)
      rw [hM] at this
      rw [this]; rfl
    rw [depL_hit hE hd]; rfl
  · rw [depL_end (by omega)]; show (2097152 : Int) = M; omega
theorem nx_end {rs : List Rl} {gs : List Gp} {a t : Int} (ht : ¬ t < 2097152) (h : depL rs gs a = depL rs gs t) : nx rs gs a = 2097152 := by
  unfold nx
  rw [h, depL_end (by omega)]; rfl
set_option maxRecDepth 100000 in
set_option maxHeartbeats 8000000 in
theorem rnext_is (p : Option Addr) (n c : Nat) (rs : List Rl) (q : Option Addr) (m d : Nat) (gs : List Gp) (a : Int) (w : World) (hr : Hid (RulesV w p n c rs)) (hg : Hid (GapsV w q m d gs)) (hv : Hid (Valid rs gs)) (h16 : n ≤ 16) (h64 : m ≤ 64) (ha0 : 0 ≤ a) (ha1 : a ≤ 2097152) :
    Calls Try.prog 20 #[.slice p n c, .slice q m d, .int .i64 a] w fun e w' => e = .returned (.int .i64 (nx rs gs a)) ∧ Below w.heap.size w w' := by
  have hnc := hr.out.nc
  have hcm := hr.out.cm
  have hmd := hg.out.nc
  have hdm := hg.out.cm
  go_enter Try.func20, Try.ntmps20
  go_wp2_with fail
  go_loopw [2] (fun v wr => ∃ t : Int, v = .int .i64 t ∧ 0 ≤ t ∧ t ≤ 2097152 ∧ Hid (depL rs gs a = depL rs gs t) ∧ Hid (Below w.heap.size w wr)) (fun v _ => (2097152 - intOf v).toNat)
  case atStart => exact ⟨a, rfl, ha0, ha1, Lib.hid rfl, Lib.hid (Below.refl _ w)⟩
  case round =>
    obtain ⟨t, rfl, ht0, ht1, HD, HB⟩ := hrel
    by_cases hlt : t < 2097152
    · have hd0 : decide (t < 2097152) = true := decide_eq_true hlt
      go_wp2_with fail
      go_loopw [7, 8] (fun f i wq => ∃ (k : Nat) (y : Int), k ≤ n ∧ f = .int .i64 y ∧ i = .int .i64 (k : Int) ∧ Hid (((rs.take k).map (fun r => fol r t)).foldl min 2097152 = y) ∧ Hid (Below w.heap.size w wq)) (fun _ i _ => n - (intOf i).toNat)
      case atStart => exact ⟨0, 2097152, by omega, rfl, by simp, Lib.hid rfl, HB⟩
      case round =>
        clear HB
        obtain ⟨k, y, hk, rfl, rfl, HY, HB⟩ := hrel
        by_cases hkn : k < n
        · obtain ⟨b, off, hp, hb, d0, d1, d2⟩ := (hr.out.below HB.out).at hkn
          have hkl : k < rs.length := by have := hr.out.len; omega
          obtain ⟨x, hx⟩ : ∃ x, rs.getD k rl0 = x := ⟨_, rfl⟩
          have HOK := Lib.hid (show okR x = true by rw [← hx]; exact hv.out.r _ (getD_memZ hkl))
          have HTK := Lib.hid (show (rs.take (k + 1)).map (fun r => fol r t) = (rs.take k).map (fun r => fol r t) ++ [fol x t] by rw [take_snocZ (d := rl0) hkl, hx, List.map_append]; rfl)
          rw [hx] at d0 d1 d2
          clear hx
          obtain ⟨x1, x2, x3⟩ := x
          dsimp only at d0 d1 d2
          subst hp
          have HF := rlst_is (x1, x2, x3) t wr HOK.out ht1
          dsimp only at HF
          obtain ⟨z, hz⟩ : ∃ z, fol (x1, x2, x3) t = z := ⟨_, rfl⟩
          rw [hz] at HF HTK
          clear hz
          go_wp2_with (go_at_call 25; (with_reducible refine HF.mono ?_); rintro e w3 ⟨rfl, hb3⟩; have B3 := Lib.hid (bel_trans HB.out hb3); clear hb3)
          go_roundw
          case rel => exact ⟨k + 1, if z < y then z else y, by omega, rfl, by simp, Lib.hid (by rw [HTK.out, List.foldl_append, HY.out]; show min y z = _; split <;> omega), B3⟩
          case measure => simp [intOf]; omega
        · have HM := Lib.hid (show folM rs t = y by
            rw [← folM_map rs t, ← HY.out, List.take_of_length_le (by have := hr.out.len; omega)])
          have hd : decide ((k : Int) < (n : Int)) = false := decide_eq_false (by omega)
          have hM0 : t ≤ y ∧ y ≤ 2097152 := by have := folM_lo hv.out ht1; rw [HM.out] at this; exact this
          clear HY
          go_wp2_with fail
          go_loopw [2, 9] (fun v i wq => ∃ (h : Nat) (u : Int), h ≤ m ∧ v = .int .i64 u ∧ i = .int .i64 (h : Int) ∧ Hid ((u = y ∧ ∀ g ∈ gs.take h, gapB g y = false) ∨ (∃ g ∈ gs, g.1 ≤ y ∧ y < g.2 ∧ u = g.2 ∧ g.2 ≤ 2097152)) ∧ Hid (Below w.heap.size w wq)) (fun _ i _ => m - (intOf i).toNat)
          case atStart => exact ⟨0, y, by omega, rfl, by simp, Lib.hid (.inl ⟨rfl, by simp⟩), HB⟩
          case round =>
            clear HB
            obtain ⟨h, u, hh, rfl, rfl, HU, HB⟩ := hrel
            by_cases hhm : h < m
            · obtain ⟨b, off, hp, hb, d0, d1⟩ := (hg.out.below HB.out).at hhm
              have hgl : h < gs.length := by have := hg.out.len; omega
              obtain ⟨g, hgx⟩ : ∃ g, gs.getD h gp0 = g := ⟨_, rfl⟩
              have HGM := Lib.hid (show g ∈ gs by rw [← hgx]; exact getD_memZ hgl)
              have hgb := hv.out.gap hgl
              have HGT := Lib.hid (show gs.take (h + 1) = gs.take h ++ [g] by rw [take_snocZ (d := gp0) hgl, hgx])
              rw [hgx] at d0 d1 hgb
              clear hgx
              obtain ⟨g1, g2⟩ := g
              dsimp only at d0 d1 hgb
              subst hp
              by_cases hin : g1 ≤ y ∧ y < g2
              · have t1 : decide (g1 ≤ y) = true := decide_eq_true hin.1
                have t2 : decide (y < g2) = true := decide_eq_true hin.2
                go_wp2_with fail
                go_roundw
                case rel => exact ⟨h + 1, g2, by omega, rfl, by simp, Lib.hid (.inr ⟨(g1, g2), HGM.out, hin.1, hin.2, rfl, hgb.2.2⟩), HB⟩
                case measure => simp [intOf]; omega
              · have HGR := Lib.hid (show (u = y ∧ ∀ g ∈ gs.take (h + 1), gapB g y = false) ∨ (∃ g ∈ gs, g.1 ≤ y ∧ y < g.2 ∧ u = g.2 ∧ g.2 ≤ 2097152) by
                  refine HU.out.imp (fun k => ⟨k.1, ?_⟩) id
                  rw [HGT.out]
                  intro g hgm
                  rcases List.mem_append.1 hgm with h2 | h2
                  · exact k.2 g h2
                  · rw [List.mem_singleton.1 h2]; unfold gapB; simp; omega)
                by_cases h1 : g1 ≤ y
                · have t1 : decide (g1 ≤ y) = true := decide_eq_true h1
                  have t2 : decide (y < g2) = false := decide_eq_false (by omega)
                  go_wp2_with fail
                  go_roundw
                  case rel => exact ⟨h + 1, u, by omega, rfl, by simp, HGR, HB⟩
                  case measure => simp [intOf]; omega
                · have t1 : decide (g1 ≤ y) = false := decide_eq_false h1
                  go_wp2_with fail
                  go_roundw
                  case rel => exact ⟨h + 1, u, by omega, rfl, by simp, HGR, HB⟩
                  case measure => simp [intOf]; omega
            · have hhe : h = m := by omega
              have hd2 : decide ((h : Int) < (m : Int)) = false := decide_eq_false (by omega)
              rcases HU.out with ⟨hu, hA⟩ | ⟨g, hgm, hg1, hg2, hg3, hg4⟩
              · have HN := Lib.hid (show nx rs gs a = y from nx_hit hv.out ht1 HD.out HM.out (by
                  rw [List.any_eq_false]
                  intro g hgm
                  rw [List.take_of_length_le (by have := hg.out.len; omega)] at hA
                  rw [hA g hgm]; simp))
                subst hu
                clear hA hhe HU HM HD
                go_wp2_with fail
                go_ret
                rw [HN.out]
                exact ⟨rfl, HB.out⟩
              · have HD2 := Lib.hid (show depL rs gs a = depL rs gs u by
                  rw [HD.out, folM_skip hv.out ht1, HM.out, hg3]
                  exact gap_skip hgm hg1 hg2)
                have hne : ¬ u = y := by omega
                have hub : t < u ∧ u ≤ 2097152 := by omega
                have d5 : decide (u = y) = false := decide_eq_false hne
                have d6 : (u == y) = false := by simpa using hne
                clear hgm hg1 hg2 hg3 hg4 hhe HU hne
                go_wp2_with fail
                go_roundw
                case rel => exact ⟨u, rfl, by omega, hub.2, HD2, HB⟩
                case measure => simp [intOf]; omega
    · have HN := Lib.hid (nx_end hlt HD.out)
      have hd : decide (t < 2097152) = false := decide_eq_false hlt
      go_wp2_with fail
      go_ret
      rw [HN.out]
      exact ⟨rfl, HB.out⟩
end Go.Proofs.Ytilokkkodocoiaa
