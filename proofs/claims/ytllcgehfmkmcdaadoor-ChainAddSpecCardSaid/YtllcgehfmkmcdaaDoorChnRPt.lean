/- The reference of layer 8: Part. -/
import Derived.Test.YtllcgehfmkmcdaaDoorChnRHd
import Derived.Test.YtllcgehfmkmcdaaDoorChnSame
namespace Go.Proofs.YtllcgehfmkmcdaaDoor
open Go.RowKit
set_option linter.unusedVariables false
set_option linter.unusedSimpArgs false

set_option maxRecDepth 100000 in
set_option maxHeartbeats 8000000 in
theorem rpart_a (p q : Option Addr) (n c m d : Nat) (ls ms : List Lk) (w : World) (hs : Hid (LksV w p n c ls)) (hz : Hid (LksV w q m d ms)) (hsm : Hid (Small ls)) (hsm2 : Hid (Small ms)) (ha : Hid (IsChk ls 80)) :
    Calls Tryd.prog 13 #[.slice p n c, .slice q m d] w fun e w' => e = .returned (.tuple #[.int .i64 0, .bool false, .int .i64 80]) ∧ Below w.heap.size w w' := by
  have hnc := hs.out.nc
  have hcm := hs.out.cm
  have hmd := hz.out.nc
  have hdm := hz.out.cm
  have hn40 : n ≤ 40 := by have := hsm.out.n; have := hs.out.len; omega
  have hm40 : m ≤ 40 := by have := hsm2.out.n; have := hz.out.len; omega
  go_enter Tryd.func13, Tryd.ntmps13
  go_wp2_with (go_at_call 23; with_reducible refine (rcheck_is p n c ls 80 _ hs hsm ha).mono ?_; rintro e w1 ⟨rfl, hbl⟩; have B1 := Lib.hid hbl; clear hbl)
  refine bodyPost_ret (v := .tuple #[.int .i64 0, .bool false, .int .i64 80]) (by simp [results, Tryd.results13, go_sem]) rfl ⟨rfl, B1.out⟩
set_option maxRecDepth 100000 in
set_option maxHeartbeats 8000000 in
theorem rpart_b (p q : Option Addr) (n c m d : Nat) (ls ms : List Lk) (w : World) (hs : Hid (LksV w p n c ls)) (hz : Hid (LksV w q m d ms)) (hsm : Hid (Small ls)) (hsm2 : Hid (Small ms)) (ha : Hid (IsChk ls 0)) (hb : Hid (IsChk ms 80)) :
    Calls Tryd.prog 13 #[.slice p n c, .slice q m d] w fun e w' => e = .returned (.tuple #[.int .i64 0, .bool false, .int .i64 80]) ∧ Below w.heap.size w w' := by
  have hnc := hs.out.nc
  have hcm := hs.out.cm
  have hmd := hz.out.nc
  have hdm := hz.out.cm
  have hn40 : n ≤ 40 := by have := hsm.out.n; have := hs.out.len; omega
  have hm40 : m ≤ 40 := by have := hsm2.out.n; have := hz.out.len; omega
  go_enter Tryd.func13, Tryd.ntmps13
  go_wp2_with (first
    | (go_at_call 23; with_reducible refine (rcheck_is p n c ls 0 _ hs hsm ha).mono ?_; rintro e w1 ⟨rfl, hbl⟩; have B1 := Lib.hid hbl; clear hbl)
    | (go_at_call 23; with_reducible refine (rcheck_is q m d ms 80 _ (Lib.hid (hz.out.below B1.out)) hsm2 hb).mono ?_; rintro e w2 ⟨rfl, hbl⟩; have B2 := Lib.hid (bel_trans B1.out hbl); clear hbl))
  refine bodyPost_ret (v := .tuple #[.int .i64 0, .bool false, .int .i64 80]) (by simp [results, Tryd.results13, go_sem]) rfl ⟨rfl, B2.out⟩
set_option maxRecDepth 100000 in
set_option maxHeartbeats 8000000 in
theorem rpart_n0 (p q : Option Addr) (n c m d : Nat) (ls ms : List Lk) (w : World) (hs : Hid (LksV w p n c ls)) (hz : Hid (LksV w q m d ms)) (hsm : Hid (Small ls)) (hsm2 : Hid (Small ms)) (ha : Hid (IsChk ls 0)) (hb : Hid (IsChk ms 0)) (hn0 : n = 0) (ri : Int) (rb : Bool) (hres : Hid (IsFst ls ms (min n m) ri rb)) :
    Calls Tryd.prog 13 #[.slice p n c, .slice q m d] w fun e w' => e = .returned (.tuple #[.int .i64 ri, .bool rb, .int .i64 0]) ∧ Below w.heap.size w w' := by
  subst hn0
  have hnc := hs.out.nc
  have hcm := hs.out.cm
  have hmd := hz.out.nc
  have hdm := hz.out.cm
  have hn40 : 0 ≤ 40 := by have := hsm.out.n; have := hs.out.len; omega
  have hm40 : m ≤ 40 := by have := hsm2.out.n; have := hz.out.len; omega
  go_enter Tryd.func13, Tryd.ntmps13
  go_upto_region 7 with (first
    | (go_at_call 23; with_reducible refine (rcheck_is p 0 c ls 0 _ hs hsm ha).mono ?_; rintro e w1 ⟨rfl, hbl⟩; have B1 := Lib.hid hbl; clear hbl)
    | (go_at_call 23; with_reducible refine (rcheck_is q m d ms 0 _ (Lib.hid (hz.out.below B1.out)) hsm2 hb).mono ?_; rintro e w2 ⟨rfl, hbl⟩; have B2 := Lib.hid (bel_trans B1.out hbl); clear hbl))
  refine wp_region_any (by kernel_rfl) ?_
  change wpAny _ _ _ _ _ _ _ (World.drew _)
  generalize hWD : World.drew _ = V
  have BX := Lib.hid (show Below w.heap.size w V by rw [← hWD]; exact B2.out.drew)
  clear hWD
  have hCD : ∀ u, Ext V u → Ext V u := fun u hu => hu
  refine region_U (D := Ext V) (Ext V) [18] (Ext.refl V) ?_
  refine anyU_takeP (i := 0) (j := 18) (v := .slice p 0 c) 20 [8, 3, 2, 1] rfl rfl (by kernel_rfl) (by kernel_rfl) (by kernel_rfl) (fun _ _ _ h => h) (by kernel_rfl) (Ext.stable _) hCD (yieldsU_val rfl (fun u hu => by go_simp)) ?_
  refine anyU_takeP (i := 1) (j := 18) (v := .int .i64 0) 21 [8, 3, 2] rfl rfl (by kernel_rfl) (by kernel_rfl) (by kernel_rfl) (fun _ _ _ h => h) (by kernel_rfl) (Ext.stable _) hCD (yieldsU_val rfl (fun u hu => by go_simp)) ?_
  refine anyU_takeP (i := 2) (j := 18) (v := .bool false) 22 [8, 3] rfl rfl (by kernel_rfl) (by kernel_rfl) (by kernel_rfl) (fun _ _ _ h => h) (by kernel_rfl) (Ext.stable _) hCD (yieldsU_val rfl (fun u hu => by go_simp)) ?_
  refine anyU_takeP (i := 3) (j := 18) (v := .bool false) 23 [8] rfl rfl (by kernel_rfl) (by kernel_rfl) (by kernel_rfl) (fun _ _ _ h => h) (by kernel_rfl) (Ext.stable _) hCD (yieldsU_val rfl (fun u hu => by go_simp)) ?_
  simp only [Act.put, List.setIfInBounds_toArray, List.set_cons_succ, List.set_cons_zero]
  refine anyU_takeP (i := 4) (j := 18) (v := undef) 24 [8, 7, 6, 5] rfl rfl (by kernel_rfl) (by kernel_rfl) (by kernel_rfl) (fun _ _ _ h => h) (by kernel_rfl) (Ext.stable _) hCD (.inr ⟨by rfl, rfl⟩) ?_
  refine anyU_takeP (i := 5) (j := 18) (v := undef) 25 [8, 7, 6] rfl rfl (by kernel_rfl) (by kernel_rfl) (by kernel_rfl) (fun _ _ _ h => h) (by kernel_rfl) (Ext.stable _) hCD (.inr ⟨by rfl, rfl⟩) ?_
  refine anyU_takeP (i := 6) (j := 18) (v := undef) 26 [8, 7] rfl rfl (by kernel_rfl) (by kernel_rfl) (by kernel_rfl) (fun _ _ _ h => h) (by kernel_rfl) (Ext.stable _) hCD (.inr ⟨by rfl, rfl⟩) ?_
  simp only [Act.put, List.setIfInBounds_toArray, List.set_cons_succ, List.set_cons_zero]
  refine anyU_takeP (i := 7) (j := 18) (v := .bool false) 27 [8] rfl rfl (by kernel_rfl) (by kernel_rfl) (by kernel_rfl) (fun _ _ _ h => h) (by kernel_rfl) (Ext.stable _) hCD (yieldsU_val rfl (fun u hu => by go_simp)) ?_
  refine anyU_takeP (i := 8) (j := 18) (v := .bool false) 28 [] rfl rfl (by kernel_rfl) (by kernel_rfl) (by kernel_rfl) (fun _ _ _ h => h) (by kernel_rfl) (Ext.stable _) hCD (yieldsU_val rfl (fun u hu => by go_simp)) ?_
  simp only [Act.put, List.setIfInBounds_toArray, List.set_cons_succ, List.set_cons_zero]
  refine anyU_takeP (i := 9) (j := 18) (v := undef) 29 [17, 12, 11, 10] rfl rfl (by kernel_rfl) (by kernel_rfl) (by kernel_rfl) (fun _ _ _ h => h) (by kernel_rfl) (Ext.stable _) hCD (.inr ⟨by rfl, rfl⟩) ?_
  refine anyU_takeP (i := 10) (j := 18) (v := undef) 30 [17, 12, 11] rfl rfl (by kernel_rfl) (by kernel_rfl) (by kernel_rfl) (fun _ _ _ h => h) (by kernel_rfl) (Ext.stable _) hCD (.inr ⟨by rfl, rfl⟩) ?_
  refine anyU_takeP (i := 11) (j := 18) (v := undef) 31 [17, 12] rfl rfl (by kernel_rfl) (by kernel_rfl) (by kernel_rfl) (fun _ _ _ h => h) (by kernel_rfl) (Ext.stable _) hCD (.inr ⟨by rfl, rfl⟩) ?_
  refine anyU_takeP (i := 12) (j := 18) (v := undef) 32 [17] rfl rfl (by kernel_rfl) (by kernel_rfl) (by kernel_rfl) (fun _ _ _ h => h) (by kernel_rfl) (Ext.stable _) hCD (.inr ⟨by rfl, rfl⟩) ?_
  simp only [Act.put, List.setIfInBounds_toArray, List.set_cons_succ, List.set_cons_zero]
  refine anyU_takeP (i := 13) (j := 18) (v := undef) 33 [17, 16, 15, 14] rfl rfl (by kernel_rfl) (by kernel_rfl) (by kernel_rfl) (fun _ _ _ h => h) (by kernel_rfl) (Ext.stable _) hCD (.inr ⟨by rfl, rfl⟩) ?_
  refine anyU_takeP (i := 14) (j := 18) (v := undef) 34 [17, 16, 15] rfl rfl (by kernel_rfl) (by kernel_rfl) (by kernel_rfl) (fun _ _ _ h => h) (by kernel_rfl) (Ext.stable _) hCD (.inr ⟨by rfl, rfl⟩) ?_
  refine anyU_takeP (i := 15) (j := 18) (v := undef) 35 [17, 16] rfl rfl (by kernel_rfl) (by kernel_rfl) (by kernel_rfl) (fun _ _ _ h => h) (by kernel_rfl) (Ext.stable _) hCD (.inr ⟨by rfl, rfl⟩) ?_
  refine anyU_takeP (i := 16) (j := 18) (v := undef) 36 [17] rfl rfl (by kernel_rfl) (by kernel_rfl) (by kernel_rfl) (fun _ _ _ h => h) (by kernel_rfl) (Ext.stable _) hCD (.inr ⟨by rfl, rfl⟩) ?_
  refine anyU_takeP (i := 17) (j := 18) (v := undef) 37 [] rfl rfl (by kernel_rfl) (by kernel_rfl) (by kernel_rfl) (fun _ _ _ h => h) (by kernel_rfl) (Ext.stable _) hCD (.inr ⟨by rfl, rfl⟩) ?_
  simp only [Act.put, List.setIfInBounds_toArray, List.set_cons_succ, List.set_cons_zero]
  refine anyU_tail 18 [] rfl rfl (by decide) (by kernel_rfl) ?_
  intro w6 hu6
  simp only [Act.put, List.filterMap_cons, List.filterMap_nil, List.getElem?_cons_succ, List.getElem?_cons_zero]
  have B6 := Lib.hid (bel_trans BX.out hu6)
  clear hu6 BX
  obtain ⟨t, ht⟩ : ∃ t, min 0 m = t := ⟨_, rfl⟩
  have ht0 : t = 0 := by omega
  rw [ht, ht0] at hres
  clear ht
  subst ht0
  go_wp2_with fail
  go_loopw [9] (fun i wr => ∃ k : Nat, k ≤ 0 ∧ i = .int .i64 (k : Int) ∧ Hid (AllB (fun j => samB (ls.getD j lk0) (ms.getD j lk0)) k) ∧ Hid (Below w.heap.size w wr)) (fun i _ => 0 - (intOf i).toNat)
  case atStart => exact ⟨0, by omega, by simp, Lib.hid (fun i hi => absurd hi (by omega)), B6⟩
  case round =>
    clear B6
    obtain ⟨k, hk, rfl, HA, HB⟩ := hrel
    obtain rfl : k = 0 := by omega
    have HR := Lib.hid (hres.out.1 HA.out)
    have HRS := Lib.hid (show Ending.returned (.tuple #[.int .i64 0, .bool false, .int .i64 0]) = .returned (.tuple #[.int .i64 ri, .bool rb, .int .i64 0]) by rw [HR.out.1, HR.out.2])
    have hq1 : decide ((0 : Int) < (0 : Int)) = false := rfl
    go_wp2_with fail
    refine bodyPost_ret (v := .tuple #[.int .i64 0, .bool false, .int .i64 0]) (by simp [results, Tryd.results13, go_sem]) rfl ⟨HRS.out, HB.out⟩
set_option maxRecDepth 100000 in
set_option maxHeartbeats 8000000 in
theorem rpart_m0 (p q : Option Addr) (n c m d : Nat) (ls ms : List Lk) (w : World) (hs : Hid (LksV w p n c ls)) (hz : Hid (LksV w q m d ms)) (hsm : Hid (Small ls)) (hsm2 : Hid (Small ms)) (ha : Hid (IsChk ls 0)) (hb : Hid (IsChk ms 0)) (hn0 : 0 < n) (hm0 : m = 0) (ri : Int) (rb : Bool) (hres : Hid (IsFst ls ms (min n m) ri rb)) :
    Calls Tryd.prog 13 #[.slice p n c, .slice q m d] w fun e w' => e = .returned (.tuple #[.int .i64 ri, .bool rb, .int .i64 0]) ∧ Below w.heap.size w w' := by
  subst hm0
  have hnc := hs.out.nc
  have hcm := hs.out.cm
  have hmd := hz.out.nc
  have hdm := hz.out.cm
  have hn40 : n ≤ 40 := by have := hsm.out.n; have := hs.out.len; omega
  have hm40 : 0 ≤ 40 := by have := hsm2.out.n; have := hz.out.len; omega
  go_enter Tryd.func13, Tryd.ntmps13
  go_upto_region 7 with (first
    | (go_at_call 23; with_reducible refine (rcheck_is p n c ls 0 _ hs hsm ha).mono ?_; rintro e w1 ⟨rfl, hbl⟩; have B1 := Lib.hid hbl; clear hbl)
    | (go_at_call 23; with_reducible refine (rcheck_is q 0 d ms 0 _ (Lib.hid (hz.out.below B1.out)) hsm2 hb).mono ?_; rintro e w2 ⟨rfl, hbl⟩; have B2 := Lib.hid (bel_trans B1.out hbl); clear hbl))
  refine wp_region_any (by kernel_rfl) ?_
  change wpAny _ _ _ _ _ _ _ (World.drew _)
  generalize hWD : World.drew _ = V
  have BX := Lib.hid (show Below w.heap.size w V by rw [← hWD]; exact B2.out.drew)
  clear hWD
  have hCD : ∀ u, Ext V u → Ext V u := fun u hu => hu
  refine region_U (D := Ext V) (Ext V) [18] (Ext.refl V) ?_
  refine anyU_takeP (i := 0) (j := 18) (v := .slice p n c) 20 [8, 3, 2, 1] rfl rfl (by kernel_rfl) (by kernel_rfl) (by kernel_rfl) (fun _ _ _ h => h) (by kernel_rfl) (Ext.stable _) hCD (yieldsU_val rfl (fun u hu => by go_simp)) ?_
  refine anyU_takeP (i := 1) (j := 18) (v := .int .i64 (n : Int)) 21 [8, 3, 2] rfl rfl (by kernel_rfl) (by kernel_rfl) (by kernel_rfl) (fun _ _ _ h => h) (by kernel_rfl) (Ext.stable _) hCD (yieldsU_val rfl (fun u hu => by go_simp)) ?_
  refine anyU_takeP (i := 2) (j := 18) (v := .bool true) 22 [8, 3] rfl rfl (by kernel_rfl) (by kernel_rfl) (by kernel_rfl) (fun _ _ _ h => h) (by kernel_rfl) (Ext.stable _) hCD (yieldsU_val rfl (fun u hu => by go_simp)) ?_
  refine anyU_takeP (i := 3) (j := 18) (v := .bool true) 23 [8] rfl rfl (by kernel_rfl) (by kernel_rfl) (by kernel_rfl) (fun _ _ _ h => h) (by kernel_rfl) (Ext.stable _) hCD (yieldsU_val rfl (fun u hu => by go_simp)) ?_
  simp only [Act.put, List.setIfInBounds_toArray, List.set_cons_succ, List.set_cons_zero]
  refine anyU_takeP (i := 4) (j := 18) (v := .slice q 0 d) 24 [8, 7, 6, 5] rfl rfl (by kernel_rfl) (by kernel_rfl) (by kernel_rfl) (fun _ _ _ h => h) (by kernel_rfl) (Ext.stable _) hCD (yieldsU_val rfl (fun u hu => by go_simp)) ?_
  refine anyU_takeP (i := 5) (j := 18) (v := .int .i64 0) 25 [8, 7, 6] rfl rfl (by kernel_rfl) (by kernel_rfl) (by kernel_rfl) (fun _ _ _ h => h) (by kernel_rfl) (Ext.stable _) hCD (yieldsU_val rfl (fun u hu => by go_simp)) ?_
  refine anyU_takeP (i := 6) (j := 18) (v := .bool false) 26 [8, 7] rfl rfl (by kernel_rfl) (by kernel_rfl) (by kernel_rfl) (fun _ _ _ h => h) (by kernel_rfl) (Ext.stable _) hCD (yieldsU_val rfl (fun u hu => by go_simp)) ?_
  simp only [Act.put, List.setIfInBounds_toArray, List.set_cons_succ, List.set_cons_zero]
  refine anyU_takeP (i := 7) (j := 18) (v := .bool false) 27 [8] rfl rfl (by kernel_rfl) (by kernel_rfl) (by kernel_rfl) (fun _ _ _ h => h) (by kernel_rfl) (Ext.stable _) hCD (yieldsU_val rfl (fun u hu => by go_simp)) ?_
  refine anyU_takeP (i := 8) (j := 18) (v := .bool false) 28 [] rfl rfl (by kernel_rfl) (by kernel_rfl) (by kernel_rfl) (fun _ _ _ h => h) (by kernel_rfl) (Ext.stable _) hCD (yieldsU_val rfl (fun u hu => by go_simp)) ?_
  simp only [Act.put, List.setIfInBounds_toArray, List.set_cons_succ, List.set_cons_zero]
  refine anyU_takeP (i := 9) (j := 18) (v := undef) 29 [17, 12, 11, 10] rfl rfl (by kernel_rfl) (by kernel_rfl) (by kernel_rfl) (fun _ _ _ h => h) (by kernel_rfl) (Ext.stable _) hCD (.inr ⟨by rfl, rfl⟩) ?_
  refine anyU_takeP (i := 10) (j := 18) (v := undef) 30 [17, 12, 11] rfl rfl (by kernel_rfl) (by kernel_rfl) (by kernel_rfl) (fun _ _ _ h => h) (by kernel_rfl) (Ext.stable _) hCD (.inr ⟨by rfl, rfl⟩) ?_
  refine anyU_takeP (i := 11) (j := 18) (v := undef) 31 [17, 12] rfl rfl (by kernel_rfl) (by kernel_rfl) (by kernel_rfl) (fun _ _ _ h => h) (by kernel_rfl) (Ext.stable _) hCD (.inr ⟨by rfl, rfl⟩) ?_
  refine anyU_takeP (i := 12) (j := 18) (v := undef) 32 [17] rfl rfl (by kernel_rfl) (by kernel_rfl) (by kernel_rfl) (fun _ _ _ h => h) (by kernel_rfl) (Ext.stable _) hCD (.inr ⟨by rfl, rfl⟩) ?_
  simp only [Act.put, List.setIfInBounds_toArray, List.set_cons_succ, List.set_cons_zero]
  refine anyU_takeP (i := 13) (j := 18) (v := undef) 33 [17, 16, 15, 14] rfl rfl (by kernel_rfl) (by kernel_rfl) (by kernel_rfl) (fun _ _ _ h => h) (by kernel_rfl) (Ext.stable _) hCD (.inr ⟨by rfl, rfl⟩) ?_
  refine anyU_takeP (i := 14) (j := 18) (v := undef) 34 [17, 16, 15] rfl rfl (by kernel_rfl) (by kernel_rfl) (by kernel_rfl) (fun _ _ _ h => h) (by kernel_rfl) (Ext.stable _) hCD (.inr ⟨by rfl, rfl⟩) ?_
  refine anyU_takeP (i := 15) (j := 18) (v := undef) 35 [17, 16] rfl rfl (by kernel_rfl) (by kernel_rfl) (by kernel_rfl) (fun _ _ _ h => h) (by kernel_rfl) (Ext.stable _) hCD (.inr ⟨by rfl, rfl⟩) ?_
  refine anyU_takeP (i := 16) (j := 18) (v := undef) 36 [17] rfl rfl (by kernel_rfl) (by kernel_rfl) (by kernel_rfl) (fun _ _ _ h => h) (by kernel_rfl) (Ext.stable _) hCD (.inr ⟨by rfl, rfl⟩) ?_
  refine anyU_takeP (i := 17) (j := 18) (v := undef) 37 [] rfl rfl (by kernel_rfl) (by kernel_rfl) (by kernel_rfl) (fun _ _ _ h => h) (by kernel_rfl) (Ext.stable _) hCD (.inr ⟨by rfl, rfl⟩) ?_
  simp only [Act.put, List.setIfInBounds_toArray, List.set_cons_succ, List.set_cons_zero]
  refine anyU_tail 18 [] rfl rfl (by decide) (by kernel_rfl) ?_
  intro w6 hu6
  simp only [Act.put, List.filterMap_cons, List.filterMap_nil, List.getElem?_cons_succ, List.getElem?_cons_zero]
  have B6 := Lib.hid (bel_trans BX.out hu6)
  clear hu6 BX
  obtain ⟨t, ht⟩ : ∃ t, min n 0 = t := ⟨_, rfl⟩
  have ht0 : t = 0 := by omega
  rw [ht, ht0] at hres
  clear ht
  subst ht0
  go_wp2_with fail
  go_loopw [9] (fun i wr => ∃ k : Nat, k ≤ 0 ∧ i = .int .i64 (k : Int) ∧ Hid (AllB (fun j => samB (ls.getD j lk0) (ms.getD j lk0)) k) ∧ Hid (Below w.heap.size w wr)) (fun i _ => 0 - (intOf i).toNat)
  case atStart => exact ⟨0, by omega, by simp, Lib.hid (fun i hi => absurd hi (by omega)), B6⟩
  case round =>
    clear B6
    obtain ⟨k, hk, rfl, HA, HB⟩ := hrel
    obtain rfl : k = 0 := by omega
    have HR := Lib.hid (hres.out.1 HA.out)
    have HRS := Lib.hid (show Ending.returned (.tuple #[.int .i64 0, .bool false, .int .i64 0]) = .returned (.tuple #[.int .i64 ri, .bool rb, .int .i64 0]) by rw [HR.out.1, HR.out.2])
    have hq1 : decide ((0 : Int) < (n : Int)) = true := decide_eq_true (by omega)
    have hq2 : decide ((0 : Int) < (0 : Int)) = false := rfl
    go_wp2_with fail
    refine bodyPost_ret (v := .tuple #[.int .i64 0, .bool false, .int .i64 0]) (by simp [results, Tryd.results13, go_sem]) rfl ⟨HRS.out, HB.out⟩
set_option maxRecDepth 100000 in
set_option maxHeartbeats 8000000 in
theorem rpart_same (p q : Option Addr) (n c m d : Nat) (ls ms : List Lk) (w : World) (hs : Hid (LksV w p n c ls)) (hz : Hid (LksV w q m d ms)) (hsm : Hid (Small ls)) (hsm2 : Hid (Small ms)) (ha : Hid (IsChk ls 0)) (hb : Hid (IsChk ms 0)) (hn0 : 0 < n) (hm0 : 0 < m) (hsn : (ls.getD 0 lk0).node = (ms.getD 0 lk0).node) (ri : Int) (rb : Bool) (hres : Hid (IsFst ls ms (min n m) ri rb)) :
    Calls Tryd.prog 13 #[.slice p n c, .slice q m d] w fun e w' => e = .returned (.tuple #[.int .i64 ri, .bool rb, .int .i64 0]) ∧ Below w.heap.size w w' := by
  obtain ⟨b, off, hp, hb', hr, hl⟩ := hs.out.at hn0
  rw [show off + 0 * 35 = off by omega] at hr
  obtain ⟨x, hx⟩ : ∃ x, ls.getD 0 lk0 = x := ⟨_, rfl⟩
  rw [hx] at hr hl hsn
  have NX := Lib.hid (lk_cells hr hl.len).1
  subst hp
  clear hr hl hx
  obtain ⟨b2, off2, hp, hb2', hr, hl⟩ := hz.out.at hm0
  rw [show off2 + 0 * 35 = off2 by omega] at hr
  obtain ⟨y, hy⟩ : ∃ y, ms.getD 0 lk0 = y := ⟨_, rfl⟩
  rw [hy] at hr hl hsn
  have NY := Lib.hid (lk_cells hr hl.len).1
  subst hp
  clear hr hl hy
  rw [← hsn] at NY
  have hnc := hs.out.nc
  have hcm := hs.out.cm
  have hmd := hz.out.nc
  have hdm := hz.out.cm
  have hn40 : n ≤ 40 := by have := hsm.out.n; have := hs.out.len; omega
  have hm40 : m ≤ 40 := by have := hsm2.out.n; have := hz.out.len; omega
  go_enter Tryd.func13, Tryd.ntmps13
  go_upto_region 7 with (first
    | (go_at_call 23; with_reducible refine (rcheck_is (some ⟨b, off, none⟩) n c ls 0 _ hs hsm ha).mono ?_; rintro e w1 ⟨rfl, hbl⟩; have B1 := Lib.hid hbl; clear hbl)
    | (go_at_call 23; with_reducible refine (rcheck_is (some ⟨b2, off2, none⟩) m d ms 0 _ (Lib.hid (hz.out.below B1.out)) hsm2 hb).mono ?_; rintro e w2 ⟨rfl, hbl⟩; have B2 := Lib.hid (bel_trans B1.out hbl); clear hbl))
  refine wp_region_any (by kernel_rfl) ?_
  change wpAny _ _ _ _ _ _ _ (World.drew _)
  generalize hWD : World.drew _ = V
  have BX := Lib.hid (show Below w.heap.size w V by rw [← hWD]; exact B2.out.drew)
  have N1 := Lib.hid (show V.cell? ⟨b, off, none⟩ = some (.int .i64 x.node) by rw [← hWD]; exact (B2.out.cell (p := ⟨b, off, none⟩) hb').trans NX.out)
  have N2 := Lib.hid (show V.cell? ⟨b2, off2, none⟩ = some (.int .i64 x.node) by rw [← hWD]; exact (B2.out.cell (p := ⟨b2, off2, none⟩) hb2').trans NY.out)
  have hbV : b < V.heap.size := by rw [← hWD]; exact Nat.lt_of_lt_of_le hb' B2.out.size
  have hb2V : b2 < V.heap.size := by rw [← hWD]; exact Nat.lt_of_lt_of_le hb2' B2.out.size
  clear hWD
  have hCD : ∀ u, Ext V u → Ext V u := fun u hu => hu
  refine region_U (D := Ext V) (Ext V) [18] (Ext.refl V) ?_
  refine anyU_takeP (i := 0) (j := 18) (v := .slice (some ⟨b, off, none⟩) n c) 20 [8, 3, 2, 1] rfl rfl (by kernel_rfl) (by kernel_rfl) (by kernel_rfl) (fun _ _ _ h => h) (by kernel_rfl) (Ext.stable _) hCD (yieldsU_val rfl (fun u hu => by go_simp)) ?_
  refine anyU_takeP (i := 1) (j := 18) (v := .int .i64 (n : Int)) 21 [8, 3, 2] rfl rfl (by kernel_rfl) (by kernel_rfl) (by kernel_rfl) (fun _ _ _ h => h) (by kernel_rfl) (Ext.stable _) hCD (yieldsU_val rfl (fun u hu => by go_simp)) ?_
  refine anyU_takeP (i := 2) (j := 18) (v := .bool true) 22 [8, 3] rfl rfl (by kernel_rfl) (by kernel_rfl) (by kernel_rfl) (fun _ _ _ h => h) (by kernel_rfl) (Ext.stable _) hCD (yieldsU_val rfl (fun u hu => by go_simp)) ?_
  refine anyU_takeP (i := 3) (j := 18) (v := .bool true) 23 [8] rfl rfl (by kernel_rfl) (by kernel_rfl) (by kernel_rfl) (fun _ _ _ h => h) (by kernel_rfl) (Ext.stable _) hCD (yieldsU_val rfl (fun u hu => by go_simp)) ?_
  simp only [Act.put, List.setIfInBounds_toArray, List.set_cons_succ, List.set_cons_zero]
  refine anyU_takeP (i := 4) (j := 18) (v := .slice (some ⟨b2, off2, none⟩) m d) 24 [8, 7, 6, 5] rfl rfl (by kernel_rfl) (by kernel_rfl) (by kernel_rfl) (fun _ _ _ h => h) (by kernel_rfl) (Ext.stable _) hCD (yieldsU_val rfl (fun u hu => by go_simp)) ?_
  refine anyU_takeP (i := 5) (j := 18) (v := .int .i64 (m : Int)) 25 [8, 7, 6] rfl rfl (by kernel_rfl) (by kernel_rfl) (by kernel_rfl) (fun _ _ _ h => h) (by kernel_rfl) (Ext.stable _) hCD (yieldsU_val rfl (fun u hu => by go_simp)) ?_
  refine anyU_takeP (i := 6) (j := 18) (v := .bool true) 26 [8, 7] rfl rfl (by kernel_rfl) (by kernel_rfl) (by kernel_rfl) (fun _ _ _ h => h) (by kernel_rfl) (Ext.stable _) hCD (yieldsU_val rfl (fun u hu => by go_simp)) ?_
  simp only [Act.put, List.setIfInBounds_toArray, List.set_cons_succ, List.set_cons_zero]
  refine anyU_takeP (i := 7) (j := 18) (v := .bool true) 27 [8] rfl rfl (by kernel_rfl) (by kernel_rfl) (by kernel_rfl) (fun _ _ _ h => h) (by kernel_rfl) (Ext.stable _) hCD (yieldsU_val rfl (fun u hu => by go_simp)) ?_
  refine anyU_takeP (i := 8) (j := 18) (v := .bool true) 28 [] rfl rfl (by kernel_rfl) (by kernel_rfl) (by kernel_rfl) (fun _ _ _ h => h) (by kernel_rfl) (Ext.stable _) hCD (yieldsU_val rfl (fun u hu => by go_simp)) ?_
  simp only [Act.put, List.setIfInBounds_toArray, List.set_cons_succ, List.set_cons_zero]
  refine anyU_takeP (i := 9) (j := 18) (v := .slice (some ⟨b, off, none⟩) n c) 29 [17, 12, 11, 10] rfl rfl (by kernel_rfl) (by kernel_rfl) (by kernel_rfl) (fun _ _ _ h => h) (by kernel_rfl) (Ext.stable _) hCD (yieldsU_val rfl (fun u hu => by go_simp)) ?_
  refine anyU_takeP (i := 10) (j := 18) (v := .pointer (some ⟨b, off, none⟩)) 30 [17, 12, 11] rfl rfl (by kernel_rfl) (by kernel_rfl) (by kernel_rfl) (fun _ _ _ h => h) (by kernel_rfl) (Ext.stable _) hCD (yieldsU_val rfl (fun u hu => by go_simp)) ?_
  refine anyU_takeP (i := 11) (j := 18) (v := .pointer (some ⟨b, off, none⟩)) 31 [17, 12] rfl rfl (by kernel_rfl) (by kernel_rfl) (by kernel_rfl) (fun _ _ _ h => h) (by kernel_rfl) (Ext.stable _) hCD (yieldsU_val rfl (fun u hu => by go_simp)) ?_
  refine anyU_takeP (i := 12) (j := 18) (v := .int .i64 x.node) 32 [17] rfl rfl (by kernel_rfl) (by kernel_rfl) (by kernel_rfl) (fun _ _ _ h => h) (by kernel_rfl) (Ext.stable _) hCD (yieldsU_val rfl (fun u hu => by have cc := (hu.cell (p := ⟨b, off, none⟩) hbV).trans N1.out; go_simp)) ?_
  simp only [Act.put, List.setIfInBounds_toArray, List.set_cons_succ, List.set_cons_zero]
  refine anyU_takeP (i := 13) (j := 18) (v := .slice (some ⟨b2, off2, none⟩) m d) 33 [17, 16, 15, 14] rfl rfl (by kernel_rfl) (by kernel_rfl) (by kernel_rfl) (fun _ _ _ h => h) (by kernel_rfl) (Ext.stable _) hCD (yieldsU_val rfl (fun u hu => by go_simp)) ?_
  refine anyU_takeP (i := 14) (j := 18) (v := .pointer (some ⟨b2, off2, none⟩)) 34 [17, 16, 15] rfl rfl (by kernel_rfl) (by kernel_rfl) (by kernel_rfl) (fun _ _ _ h => h) (by kernel_rfl) (Ext.stable _) hCD (yieldsU_val rfl (fun u hu => by go_simp)) ?_
  refine anyU_takeP (i := 15) (j := 18) (v := .pointer (some ⟨b2, off2, none⟩)) 35 [17, 16] rfl rfl (by kernel_rfl) (by kernel_rfl) (by kernel_rfl) (fun _ _ _ h => h) (by kernel_rfl) (Ext.stable _) hCD (yieldsU_val rfl (fun u hu => by go_simp)) ?_
  refine anyU_takeP (i := 16) (j := 18) (v := .int .i64 x.node) 36 [17] rfl rfl (by kernel_rfl) (by kernel_rfl) (by kernel_rfl) (fun _ _ _ h => h) (by kernel_rfl) (Ext.stable _) hCD (yieldsU_val rfl (fun u hu => by have cc := (hu.cell (p := ⟨b2, off2, none⟩) hb2V).trans N2.out; go_simp)) ?_
  refine anyU_takeP (i := 17) (j := 18) (v := .bool false) 37 [] rfl rfl (by kernel_rfl) (by kernel_rfl) (by kernel_rfl) (fun _ _ _ h => h) (by kernel_rfl) (Ext.stable _) hCD (yieldsU_val rfl (fun u hu => by go_simp)) ?_
  simp only [Act.put, List.setIfInBounds_toArray, List.set_cons_succ, List.set_cons_zero]
  refine anyU_tail 18 [] rfl rfl (by decide) (by kernel_rfl) ?_
  intro w6 hu6
  simp only [Act.put, List.filterMap_cons, List.filterMap_nil, List.getElem?_cons_succ, List.getElem?_cons_zero]
  have B6 := Lib.hid (bel_trans BX.out hu6)
  clear hu6 BX
  clear NX NY N1 N2 hbV hb2V hsn
  obtain ⟨t, ht⟩ : ∃ t, min n m = t := ⟨_, rfl⟩
  have htn : t ≤ n := by omega
  have htm : t ≤ m := by omega
  have hnm : t = n ∨ t = m := by omega
  rw [ht] at hres
  clear ht
  go_wp2_with fail
  go_loopw [9] (fun i wr => ∃ k : Nat, k ≤ t ∧ i = .int .i64 (k : Int) ∧ Hid (AllB (fun j => samB (ls.getD j lk0) (ms.getD j lk0)) k) ∧ Hid (Below w.heap.size w wr)) (fun i _ => t - (intOf i).toNat)
  case atStart => exact ⟨0, by omega, by simp, Lib.hid (fun i hi => absurd hi (by omega)), B6⟩
  case round =>
    clear B6
    obtain ⟨k, hk, rfl, HA, HB⟩ := hrel
    by_cases hlt : k < t
    · have hkn : k < n := by omega
      have hkm : k < m := by omega
      have hq1 : decide ((k : Int) < (n : Int)) = true := decide_eq_true (by omega)
      have hq2 : decide ((k : Int) < (m : Int)) = true := decide_eq_true (by omega)
      obtain ⟨b3, off3, hp, hb, hr, hl⟩ := hs.out.at (i := k) hkn
      obtain ⟨b4, off4, hp2, hb2, hr2, hl2⟩ := hz.out.at (i := k) hkm
      obtain ⟨rfl, rfl⟩ : b = b3 ∧ off = off3 := by simpa using hp
      obtain ⟨rfl, rfl⟩ : b2 = b4 ∧ off2 = off4 := by simpa using hp2
      clear hp hp2
      have HXO := Lib.hid (hs.out.ok _ (getD_memL (i := k) (by have := hs.out.len; omega)))
      have HYO := Lib.hid (hz.out.ok _ (getD_memL (i := k) (by have := hz.out.len; omega)))
      obtain ⟨x, hx⟩ : ∃ x, ls.getD k lk0 = x := ⟨_, rfl⟩
      obtain ⟨y, hy⟩ : ∃ y, ms.getD k lk0 = y := ⟨_, rfl⟩
      have HSB := Lib.hid (show samB (ls.getD k lk0) (ms.getD k lk0) = samB x y by rw [hx, hy])
      rw [hx] at hr hl HXO
      rw [hy] at hr2 hl2 HYO
      have hxl := Lib.hid hl.len
      have hyl := Lib.hid hl2.len
      have R1 := Lib.hid hr
      have R2 := Lib.hid hr2
      clear hr hr2 hl hl2 hx hy
      go_upto_region 12 with fail
      refine wp_region_any (by kernel_rfl) ?_
      change wpAny _ _ _ _ _ _ _ (World.drew _)
      generalize hWD : World.drew _ = V
      have BV := Lib.hid (show Below w.heap.size w V by rw [← hWD]; exact HB.out.drew)
      have RX := Lib.hid (show V.rangeAt b (off + k * 35) (lkv x) from bel_range BV.out R1.out hb)
      have RY := Lib.hid (show V.rangeAt b2 (off2 + k * 35) (lkv y) from bel_range BV.out R2.out hb2)
      have hbV : b < V.heap.size := Nat.lt_of_lt_of_le hb BV.out.size
      have hb2V : b2 < V.heap.size := Nat.lt_of_lt_of_le hb2 BV.out.size
      clear hWD R1 R2 hb hb2
      have hCD : ∀ u, Ext V u → Ext V u := fun u hu => hu
      refine region_U (D := Ext V) (Ext V) [8] (Ext.refl V) ?_
      refine anyU_takeP (i := 0) (j := 8) (v := .slice (some ⟨b, off, none⟩) n c) 51 [3, 2] rfl rfl (by kernel_rfl) (by kernel_rfl) (by kernel_rfl) (fun _ _ _ h => h) (by kernel_rfl) (Ext.stable _) hCD (yieldsU_val rfl (fun u hu => by go_simp)) ?_
      refine anyU_takeP (i := 1) (j := 8) (v := .int .i64 (k : Int)) 52 [3, 2] rfl rfl (by kernel_rfl) (by kernel_rfl) (by kernel_rfl) (fun _ _ _ h => h) (by kernel_rfl) (Ext.stable _) hCD (yieldsU_val rfl (fun u hu => by go_simp)) ?_
      refine anyU_takeP (i := 2) (j := 8) (v := .pointer (some ⟨b, off + k * 35, none⟩)) 53 [3] rfl rfl (by kernel_rfl) (by kernel_rfl) (by kernel_rfl) (fun _ _ _ h => h) (by kernel_rfl) (Ext.stable _) hCD (yieldsU_val rfl (fun u hu => by go_simp)) ?_
      refine anyU_takeP (i := 3) (j := 8) (v := .agg (lkv x).toArray) 54 [] rfl rfl (by kernel_rfl) (by kernel_rfl) (by kernel_rfl) (fun _ _ _ h => h) (by kernel_rfl) (Ext.stable _) hCD (yieldsU_of_C (yields_loadK (by rfl) (.tmp 53) rfl b (off + k * 35) rfl x hxl.out (fun u hu => bel_range hu RX.out hbV))) ?_
      simp only [Act.put, List.setIfInBounds_toArray, List.set_cons_succ, List.set_cons_zero]
      refine anyU_takeP (i := 4) (j := 8) (v := .slice (some ⟨b2, off2, none⟩) m d) 55 [7, 6] rfl rfl (by kernel_rfl) (by kernel_rfl) (by kernel_rfl) (fun _ _ _ h => h) (by kernel_rfl) (Ext.stable _) hCD (yieldsU_val rfl (fun u hu => by go_simp)) ?_
      refine anyU_takeP (i := 5) (j := 8) (v := .int .i64 (k : Int)) 56 [7, 6] rfl rfl (by kernel_rfl) (by kernel_rfl) (by kernel_rfl) (fun _ _ _ h => h) (by kernel_rfl) (Ext.stable _) hCD (yieldsU_val rfl (fun u hu => by go_simp)) ?_
      refine anyU_takeP (i := 6) (j := 8) (v := .pointer (some ⟨b2, off2 + k * 35, none⟩)) 57 [7] rfl rfl (by kernel_rfl) (by kernel_rfl) (by kernel_rfl) (fun _ _ _ h => h) (by kernel_rfl) (Ext.stable _) hCD (yieldsU_val rfl (fun u hu => by go_simp)) ?_
      refine anyU_takeP (i := 7) (j := 8) (v := .agg (lkv y).toArray) 58 [] rfl rfl (by kernel_rfl) (by kernel_rfl) (by kernel_rfl) (fun _ _ _ h => h) (by kernel_rfl) (Ext.stable _) hCD (yieldsU_of_C (yields_loadK (by rfl) (.tmp 57) rfl b2 (off2 + k * 35) rfl y hyl.out (fun u hu => bel_range hu RY.out hb2V))) ?_
      simp only [Act.put, List.setIfInBounds_toArray, List.set_cons_succ, List.set_cons_zero]
      refine anyU_tail 8 [9] rfl rfl (by decide) (by kernel_rfl) ?_
      intro u hu
      simp only [Act.put, List.filterMap_cons, List.filterMap_nil, List.getElem?_cons_succ, List.getElem?_cons_zero]
      have BU := Lib.hid (bel_trans BV.out hu)
      clear hu RX RY BV
      cases hsb : samB x y with
      | true =>
        have HT := Lib.hid (show samB (ls.getD k lk0) (ms.getD k lk0) = true by rw [HSB.out, hsb])
        go_wp2_with (go_at_call 18; refine (lsame_is x y _ (Lib.hid (HXO.out.below BU.out)) (Lib.hid (HYO.out.below BU.out)) true (Lib.hid hsb)).mono ?_; rintro e w' ⟨rfl, hb⟩; have B7 := Lib.hid (bel_trans BU.out hb); clear hb)
        go_roundw
        case rel => exact ⟨k + 1, by omega, by simp, Lib.hid (fun i hi => by
          rcases Nat.lt_or_ge i k with h | h
          · exact HA.out i h
          · obtain rfl : i = k := by omega
            exact HT.out), B7⟩
        case measure => simp [intOf]; omega
      | false =>
        have HT := Lib.hid (show samB (ls.getD k lk0) (ms.getD k lk0) = false by rw [HSB.out, hsb])
        have HR := Lib.hid (hres.out.2 k hlt HA.out HT.out)
        have HRS := Lib.hid (show Ending.returned (.tuple #[.int .i64 (k : Int), .bool true, .int .i64 0]) = .returned (.tuple #[.int .i64 ri, .bool rb, .int .i64 0]) by rw [HR.out.1, HR.out.2])
        go_wp2_with (go_at_call 18; refine (lsame_is x y _ (Lib.hid (HXO.out.below BU.out)) (Lib.hid (HYO.out.below BU.out)) false (Lib.hid hsb)).mono ?_; rintro e w' ⟨rfl, hb⟩; have B7 := Lib.hid (bel_trans BU.out hb); clear hb)
        refine bodyPost_ret (v := .tuple #[.int .i64 (k : Int), .bool true, .int .i64 0]) (by simp [results, Tryd.results13, go_sem]) rfl ⟨HRS.out, B7.out⟩
    · obtain rfl : k = t := by omega
      have HR := Lib.hid (hres.out.1 HA.out)
      have HRS := Lib.hid (show Ending.returned (.tuple #[.int .i64 0, .bool false, .int .i64 0]) = .returned (.tuple #[.int .i64 ri, .bool rb, .int .i64 0]) by rw [HR.out.1, HR.out.2])
      by_cases hkn : k < n
      · have hq1 : decide ((k : Int) < (n : Int)) = true := decide_eq_true (by omega)
        have hq2 : decide ((k : Int) < (m : Int)) = false := decide_eq_false (by omega)
        go_wp2_with fail
        refine bodyPost_ret (v := .tuple #[.int .i64 0, .bool false, .int .i64 0]) (by simp [results, Tryd.results13, go_sem]) rfl ⟨HRS.out, HB.out⟩
      · have hq1 : decide ((k : Int) < (n : Int)) = false := decide_eq_false (by omega)
        go_wp2_with fail
        refine bodyPost_ret (v := .tuple #[.int .i64 0, .bool false, .int .i64 0]) (by simp [results, Tryd.results13, go_sem]) rfl ⟨HRS.out, HB.out⟩
set_option maxRecDepth 100000 in
set_option maxHeartbeats 8000000 in
theorem rpart_diff (p q : Option Addr) (n c m d : Nat) (ls ms : List Lk) (w : World) (hs : Hid (LksV w p n c ls)) (hz : Hid (LksV w q m d ms)) (hsm : Hid (Small ls)) (hsm2 : Hid (Small ms)) (ha : Hid (IsChk ls 0)) (hb : Hid (IsChk ms 0)) (hn0 : 0 < n) (hm0 : 0 < m) (hsn : ¬ (ls.getD 0 lk0).node = (ms.getD 0 lk0).node) :
    Calls Tryd.prog 13 #[.slice p n c, .slice q m d] w fun e w' => e = .returned (.tuple #[.int .i64 0, .bool false, .int .i64 80]) ∧ Below w.heap.size w w' := by
  obtain ⟨b, off, hp, hb', hr, hl⟩ := hs.out.at hn0
  rw [show off + 0 * 35 = off by omega] at hr
  obtain ⟨x, hx⟩ : ∃ x, ls.getD 0 lk0 = x := ⟨_, rfl⟩
  rw [hx] at hr hl hsn
  have NX := Lib.hid (lk_cells hr hl.len).1
  subst hp
  clear hr hl hx
  obtain ⟨b2, off2, hp, hb2', hr, hl⟩ := hz.out.at hm0
  rw [show off2 + 0 * 35 = off2 by omega] at hr
  obtain ⟨y, hy⟩ : ∃ y, ms.getD 0 lk0 = y := ⟨_, rfl⟩
  rw [hy] at hr hl hsn
  have NY := Lib.hid (lk_cells hr hl.len).1
  subst hp
  clear hr hl hy
  have hd1 : decide (x.node = y.node) = false := decide_eq_false hsn
  have hd2 : (x.node == y.node) = false := by simpa using hsn
  have hnc := hs.out.nc
  have hcm := hs.out.cm
  have hmd := hz.out.nc
  have hdm := hz.out.cm
  have hn40 : n ≤ 40 := by have := hsm.out.n; have := hs.out.len; omega
  have hm40 : m ≤ 40 := by have := hsm2.out.n; have := hz.out.len; omega
  go_enter Tryd.func13, Tryd.ntmps13
  go_upto_region 7 with (first
    | (go_at_call 23; with_reducible refine (rcheck_is (some ⟨b, off, none⟩) n c ls 0 _ hs hsm ha).mono ?_; rintro e w1 ⟨rfl, hbl⟩; have B1 := Lib.hid hbl; clear hbl)
    | (go_at_call 23; with_reducible refine (rcheck_is (some ⟨b2, off2, none⟩) m d ms 0 _ (Lib.hid (hz.out.below B1.out)) hsm2 hb).mono ?_; rintro e w2 ⟨rfl, hbl⟩; have B2 := Lib.hid (bel_trans B1.out hbl); clear hbl))
  refine wp_region_any (by kernel_rfl) ?_
  change wpAny _ _ _ _ _ _ _ (World.drew _)
  generalize hWD : World.drew _ = V
  have BX := Lib.hid (show Below w.heap.size w V by rw [← hWD]; exact B2.out.drew)
  have N1 := Lib.hid (show V.cell? ⟨b, off, none⟩ = some (.int .i64 x.node) by rw [← hWD]; exact (B2.out.cell (p := ⟨b, off, none⟩) hb').trans NX.out)
  have N2 := Lib.hid (show V.cell? ⟨b2, off2, none⟩ = some (.int .i64 y.node) by rw [← hWD]; exact (B2.out.cell (p := ⟨b2, off2, none⟩) hb2').trans NY.out)
  have hbV : b < V.heap.size := by rw [← hWD]; exact Nat.lt_of_lt_of_le hb' B2.out.size
  have hb2V : b2 < V.heap.size := by rw [← hWD]; exact Nat.lt_of_lt_of_le hb2' B2.out.size
  clear hWD
  have hCD : ∀ u, Ext V u → Ext V u := fun u hu => hu
  refine region_U (D := Ext V) (Ext V) [18] (Ext.refl V) ?_
  refine anyU_takeP (i := 0) (j := 18) (v := .slice (some ⟨b, off, none⟩) n c) 20 [8, 3, 2, 1] rfl rfl (by kernel_rfl) (by kernel_rfl) (by kernel_rfl) (fun _ _ _ h => h) (by kernel_rfl) (Ext.stable _) hCD (yieldsU_val rfl (fun u hu => by go_simp)) ?_
  refine anyU_takeP (i := 1) (j := 18) (v := .int .i64 (n : Int)) 21 [8, 3, 2] rfl rfl (by kernel_rfl) (by kernel_rfl) (by kernel_rfl) (fun _ _ _ h => h) (by kernel_rfl) (Ext.stable _) hCD (yieldsU_val rfl (fun u hu => by go_simp)) ?_
  refine anyU_takeP (i := 2) (j := 18) (v := .bool true) 22 [8, 3] rfl rfl (by kernel_rfl) (by kernel_rfl) (by kernel_rfl) (fun _ _ _ h => h) (by kernel_rfl) (Ext.stable _) hCD (yieldsU_val rfl (fun u hu => by go_simp)) ?_
  refine anyU_takeP (i := 3) (j := 18) (v := .bool true) 23 [8] rfl rfl (by kernel_rfl) (by kernel_rfl) (by kernel_rfl) (fun _ _ _ h => h) (by kernel_rfl) (Ext.stable _) hCD (yieldsU_val rfl (fun u hu => by go_simp)) ?_
  simp only [Act.put, List.setIfInBounds_toArray, List.set_cons_succ, List.set_cons_zero]
  refine anyU_takeP (i := 4) (j := 18) (v := .slice (some ⟨b2, off2, none⟩) m d) 24 [8, 7, 6, 5] rfl rfl (by kernel_rfl) (by kernel_rfl) (by kernel_rfl) (fun _ _ _ h => h) (by kernel_rfl) (Ext.stable _) hCD (yieldsU_val rfl (fun u hu => by go_simp)) ?_
  refine anyU_takeP (i := 5) (j := 18) (v := .int .i64 (m : Int)) 25 [8, 7, 6] rfl rfl (by kernel_rfl) (by kernel_rfl) (by kernel_rfl) (fun _ _ _ h => h) (by kernel_rfl) (Ext.stable _) hCD (yieldsU_val rfl (fun u hu => by go_simp)) ?_
  refine anyU_takeP (i := 6) (j := 18) (v := .bool true) 26 [8, 7] rfl rfl (by kernel_rfl) (by kernel_rfl) (by kernel_rfl) (fun _ _ _ h => h) (by kernel_rfl) (Ext.stable _) hCD (yieldsU_val rfl (fun u hu => by go_simp)) ?_
  simp only [Act.put, List.setIfInBounds_toArray, List.set_cons_succ, List.set_cons_zero]
  refine anyU_takeP (i := 7) (j := 18) (v := .bool true) 27 [8] rfl rfl (by kernel_rfl) (by kernel_rfl) (by kernel_rfl) (fun _ _ _ h => h) (by kernel_rfl) (Ext.stable _) hCD (yieldsU_val rfl (fun u hu => by go_simp)) ?_
  refine anyU_takeP (i := 8) (j := 18) (v := .bool true) 28 [] rfl rfl (by kernel_rfl) (by kernel_rfl) (by kernel_rfl) (fun _ _ _ h => h) (by kernel_rfl) (Ext.stable _) hCD (yieldsU_val rfl (fun u hu => by go_simp)) ?_
  simp only [Act.put, List.setIfInBounds_toArray, List.set_cons_succ, List.set_cons_zero]
  refine anyU_takeP (i := 9) (j := 18) (v := .slice (some ⟨b, off, none⟩) n c) 29 [17, 12, 11, 10] rfl rfl (by kernel_rfl) (by kernel_rfl) (by kernel_rfl) (fun _ _ _ h => h) (by kernel_rfl) (Ext.stable _) hCD (yieldsU_val rfl (fun u hu => by go_simp)) ?_
  refine anyU_takeP (i := 10) (j := 18) (v := .pointer (some ⟨b, off, none⟩)) 30 [17, 12, 11] rfl rfl (by kernel_rfl) (by kernel_rfl) (by kernel_rfl) (fun _ _ _ h => h) (by kernel_rfl) (Ext.stable _) hCD (yieldsU_val rfl (fun u hu => by go_simp)) ?_
  refine anyU_takeP (i := 11) (j := 18) (v := .pointer (some ⟨b, off, none⟩)) 31 [17, 12] rfl rfl (by kernel_rfl) (by kernel_rfl) (by kernel_rfl) (fun _ _ _ h => h) (by kernel_rfl) (Ext.stable _) hCD (yieldsU_val rfl (fun u hu => by go_simp)) ?_
  refine anyU_takeP (i := 12) (j := 18) (v := .int .i64 x.node) 32 [17] rfl rfl (by kernel_rfl) (by kernel_rfl) (by kernel_rfl) (fun _ _ _ h => h) (by kernel_rfl) (Ext.stable _) hCD (yieldsU_val rfl (fun u hu => by have cc := (hu.cell (p := ⟨b, off, none⟩) hbV).trans N1.out; go_simp)) ?_
  simp only [Act.put, List.setIfInBounds_toArray, List.set_cons_succ, List.set_cons_zero]
  refine anyU_takeP (i := 13) (j := 18) (v := .slice (some ⟨b2, off2, none⟩) m d) 33 [17, 16, 15, 14] rfl rfl (by kernel_rfl) (by kernel_rfl) (by kernel_rfl) (fun _ _ _ h => h) (by kernel_rfl) (Ext.stable _) hCD (yieldsU_val rfl (fun u hu => by go_simp)) ?_
  refine anyU_takeP (i := 14) (j := 18) (v := .pointer (some ⟨b2, off2, none⟩)) 34 [17, 16, 15] rfl rfl (by kernel_rfl) (by kernel_rfl) (by kernel_rfl) (fun _ _ _ h => h) (by kernel_rfl) (Ext.stable _) hCD (yieldsU_val rfl (fun u hu => by go_simp)) ?_
  refine anyU_takeP (i := 15) (j := 18) (v := .pointer (some ⟨b2, off2, none⟩)) 35 [17, 16] rfl rfl (by kernel_rfl) (by kernel_rfl) (by kernel_rfl) (fun _ _ _ h => h) (by kernel_rfl) (Ext.stable _) hCD (yieldsU_val rfl (fun u hu => by go_simp)) ?_
  refine anyU_takeP (i := 16) (j := 18) (v := .int .i64 y.node) 36 [17] rfl rfl (by kernel_rfl) (by kernel_rfl) (by kernel_rfl) (fun _ _ _ h => h) (by kernel_rfl) (Ext.stable _) hCD (yieldsU_val rfl (fun u hu => by have cc := (hu.cell (p := ⟨b2, off2, none⟩) hb2V).trans N2.out; go_simp)) ?_
  refine anyU_takeP (i := 17) (j := 18) (v := .bool true) 37 [] rfl rfl (by kernel_rfl) (by kernel_rfl) (by kernel_rfl) (fun _ _ _ h => h) (by kernel_rfl) (Ext.stable _) hCD (yieldsU_val rfl (fun u hu => by go_simp)) ?_
  simp only [Act.put, List.setIfInBounds_toArray, List.set_cons_succ, List.set_cons_zero]
  refine anyU_tail 18 [] rfl rfl (by decide) (by kernel_rfl) ?_
  intro w6 hu6
  simp only [Act.put, List.filterMap_cons, List.filterMap_nil, List.getElem?_cons_succ, List.getElem?_cons_zero]
  have B6 := Lib.hid (bel_trans BX.out hu6)
  clear hu6 BX
  go_wp2_with fail
  refine bodyPost_ret (v := .tuple #[.int .i64 0, .bool false, .int .i64 80]) (by simp [results, Tryd.results13, go_sem]) rfl ⟨rfl, B6.out⟩
end Go.Proofs.YtllcgehfmkmcdaaDoor
