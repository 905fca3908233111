/- Package chain: Part. -/
import Derived.Test.YtllcgehfmkmcdaaDoorChnPrt
namespace Go.Proofs.YtllcgehfmkmcdaaDoor
open Go.RowKit
set_option linter.unusedVariables false
set_option linter.unusedSimpArgs false

theorem cfirst_is (p q : Option Addr) (n c m d : Nat) (ls ms : List Lk) (w : World) (hs : Hid (LksV w p n c ls)) (hz : Hid (LksV w q m d ms)) (hsm : Hid (Small ls)) (hsm2 : Hid (Small ms)) (ri : Int) (rb : Bool) (hres : Hid (IsFst ls ms (min n m) ri rb)) :
    Calls Tryd.prog 25 #[.slice p n c, .slice q m d, .func (.func 26) #[] #[]] w fun e w' => e = .returned (.tuple #[.int .i64 ri, .bool rb]) ∧ Below w.heap.size w w' := by
  rcases Nat.lt_or_ge m n with h | h
  · rw [Nat.min_eq_right (by omega)] at hres
    exact cfirst_gt p q n c m d ls ms w hs hz hsm hsm2 h ri rb hres
  · rw [Nat.min_eq_left h] at hres
    exact cfirst_le p q n c m d ls ms w hs hz hsm hsm2 h ri rb hres
set_option maxRecDepth 100000 in
set_option maxHeartbeats 4000000 in
theorem cpart_a (p q : Option Addr) (n c m d : Nat) (ls ms : List Lk) (w : World) (hs : Hid (LksV w p n c ls)) (hz : Hid (LksV w q m d ms)) (hsm : Hid (Small ls)) (hsm2 : Hid (Small ms)) (hkey : Hid (KeysAt w)) (ha : Hid (IsChk ls 80)) :
    Calls Tryd.prog 12 #[.slice p n c, .slice q m d] w fun e w' => e = .returned (.tuple #[.int .i64 0, .bool false, .int .i64 80]) ∧ Below w.heap.size w w' := by
  have hnc := hs.out.nc
  have hcm := hs.out.cm
  have hmd := hz.out.nc
  have hdm := hz.out.cm
  have hn40 : n ≤ 40 := by have := hsm.out.n; have := hs.out.len; omega
  have hm40 : m ≤ 40 := by have := hsm2.out.n; have := hz.out.len; omega
  have i0 : ∀ w, (Instr.index 47 (.agg #[.slice p n c, .slice q m d]) (.int .i64 0)).run Tryd.prog w = .ok (.slice p n c) w := fun _ => by kernel_rfl
  have i1 : ∀ w, (Instr.index 47 (.agg #[.slice p n c, .slice q m d]) (.int .i64 1)).run Tryd.prog w = .ok (.slice q m d) w := fun _ => by kernel_rfl
  have B0 := Lib.hid (Below.refl w.heap.size w)
  go_enter Tryd.func12, Tryd.ntmps12
  go_wp2_with fail
  go_loopw [12] (fun i wr => (i = .int .i64 0 ∨ (i = .int .i64 1 ∧ Hid (IsChk ls 0)) ∨ (i = .int .i64 2 ∧ Hid (IsChk ls 0) ∧ Hid (IsChk ms 0))) ∧ Hid (Below w.heap.size w wr)) (fun i _ => (2 - intOf i).toNat)
  case atStart => exact ⟨.inl rfl, B0⟩
  case round =>
    clear B0
    obtain ⟨hi, HB⟩ := hrel
    rcases hi with rfl | ⟨rfl, h1⟩ | ⟨rfl, h1, h2⟩
    · go_wp2_with (go_at_call 16; refine (ccheck_is p n c ls 80 _ (Lib.hid (hs.out.below HB.out)) hsm (Lib.hid (hkey.out.below HB.out)) ha).mono ?_; rintro e w1 ⟨rfl, hbl⟩; have B1 := Lib.hid (bel_trans HB.out hbl); clear hbl)
      refine bodyPost_ret (v := .tuple #[.int .i64 0, .bool false, .int .i64 80]) (by simp [results, Tryd.results12, go_sem]) rfl ⟨rfl, B1.out⟩
    · have := h1.out.det ha.out
      cases this
    · have := h1.out.det ha.out
      cases this
set_option maxRecDepth 100000 in
set_option maxHeartbeats 4000000 in
theorem cpart_b (p q : Option Addr) (n c m d : Nat) (ls ms : List Lk) (w : World) (hs : Hid (LksV w p n c ls)) (hz : Hid (LksV w q m d ms)) (hsm : Hid (Small ls)) (hsm2 : Hid (Small ms)) (hkey : Hid (KeysAt w)) (ha : Hid (IsChk ls 0)) (hb : Hid (IsChk ms 80)) :
    Calls Tryd.prog 12 #[.slice p n c, .slice q m d] w fun e w' => e = .returned (.tuple #[.int .i64 0, .bool false, .int .i64 80]) ∧ Below w.heap.size w w' := by
  have hnc := hs.out.nc
  have hcm := hs.out.cm
  have hmd := hz.out.nc
  have hdm := hz.out.cm
  have hn40 : n ≤ 40 := by have := hsm.out.n; have := hs.out.len; omega
  have hm40 : m ≤ 40 := by have := hsm2.out.n; have := hz.out.len; omega
  have i0 : ∀ w, (Instr.index 47 (.agg #[.slice p n c, .slice q m d]) (.int .i64 0)).run Tryd.prog w = .ok (.slice p n c) w := fun _ => by kernel_rfl
  have i1 : ∀ w, (Instr.index 47 (.agg #[.slice p n c, .slice q m d]) (.int .i64 1)).run Tryd.prog w = .ok (.slice q m d) w := fun _ => by kernel_rfl
  have B0 := Lib.hid (Below.refl w.heap.size w)
  go_enter Tryd.func12, Tryd.ntmps12
  go_wp2_with fail
  go_loopw [12] (fun i wr => (i = .int .i64 0 ∨ (i = .int .i64 1 ∧ Hid (IsChk ls 0)) ∨ (i = .int .i64 2 ∧ Hid (IsChk ls 0) ∧ Hid (IsChk ms 0))) ∧ Hid (Below w.heap.size w wr)) (fun i _ => (2 - intOf i).toNat)
  case atStart => exact ⟨.inl rfl, B0⟩
  case round =>
    clear B0
    obtain ⟨hi, HB⟩ := hrel
    rcases hi with rfl | ⟨rfl, h1⟩ | ⟨rfl, h1, h2⟩
    · go_wp2_with (go_at_call 16; refine (ccheck_is p n c ls 0 _ (Lib.hid (hs.out.below HB.out)) hsm (Lib.hid (hkey.out.below HB.out)) ha).mono ?_; rintro e w1 ⟨rfl, hbl⟩; have B1 := Lib.hid (bel_trans HB.out hbl); clear hbl)
      go_roundw
      case rel => exact ⟨.inr (.inl ⟨rfl, ha⟩), B1⟩
      case measure => simp [intOf]
    · go_wp2_with (go_at_call 16; refine (ccheck_is q m d ms 80 _ (Lib.hid (hz.out.below HB.out)) hsm2 (Lib.hid (hkey.out.below HB.out)) hb).mono ?_; rintro e w1 ⟨rfl, hbl⟩; have B1 := Lib.hid (bel_trans HB.out hbl); clear hbl)
      refine bodyPost_ret (v := .tuple #[.int .i64 0, .bool false, .int .i64 80]) (by simp [results, Tryd.results12, go_sem]) rfl ⟨rfl, B1.out⟩
    · have := h2.out.det hb.out
      cases this
set_option maxRecDepth 100000 in
set_option maxHeartbeats 4000000 in
theorem cpart_n0 (p q : Option Addr) (n c m d : Nat) (ls ms : List Lk) (w : World) (hs : Hid (LksV w p n c ls)) (hz : Hid (LksV w q m d ms)) (hsm : Hid (Small ls)) (hsm2 : Hid (Small ms)) (hkey : Hid (KeysAt w)) (ha : Hid (IsChk ls 0)) (hb : Hid (IsChk ms 0)) (hn0 : n = 0) (ri : Int) (rb : Bool) (hres : Hid (IsFst ls ms (min n m) ri rb)) :
    Calls Tryd.prog 12 #[.slice p n c, .slice q m d] w fun e w' => e = .returned (.tuple #[.int .i64 ri, .bool rb, .int .i64 0]) ∧ Below w.heap.size w w' := by
  subst hn0
  have hnc := hs.out.nc
  have hcm := hs.out.cm
  have hmd := hz.out.nc
  have hdm := hz.out.cm
  have hn40 : 0 ≤ 40 := by have := hsm.out.n; have := hs.out.len; omega
  have hm40 : m ≤ 40 := by have := hsm2.out.n; have := hz.out.len; omega
  have i0 : ∀ w, (Instr.index 47 (.agg #[.slice p 0 c, .slice q m d]) (.int .i64 0)).run Tryd.prog w = .ok (.slice p 0 c) w := fun _ => by kernel_rfl
  have i1 : ∀ w, (Instr.index 47 (.agg #[.slice p 0 c, .slice q m d]) (.int .i64 1)).run Tryd.prog w = .ok (.slice q m d) w := fun _ => by kernel_rfl
  have B0 := Lib.hid (Below.refl w.heap.size w)
  go_enter Tryd.func12, Tryd.ntmps12
  go_wp2_with fail
  go_loopw [12] (fun i wr => (i = .int .i64 0 ∨ (i = .int .i64 1 ∧ Hid (IsChk ls 0)) ∨ (i = .int .i64 2 ∧ Hid (IsChk ls 0) ∧ Hid (IsChk ms 0))) ∧ Hid (Below w.heap.size w wr)) (fun i _ => (2 - intOf i).toNat)
  case atStart => exact ⟨.inl rfl, B0⟩
  case round =>
    clear B0
    obtain ⟨hi, HB⟩ := hrel
    rcases hi with rfl | ⟨rfl, h1⟩ | ⟨rfl, h1, h2⟩
    · go_wp2_with (go_at_call 16; refine (ccheck_is p 0 c ls 0 _ (Lib.hid (hs.out.below HB.out)) hsm (Lib.hid (hkey.out.below HB.out)) ha).mono ?_; rintro e w1 ⟨rfl, hbl⟩; have B1 := Lib.hid (bel_trans HB.out hbl); clear hbl)
      go_roundw
      case rel => exact ⟨.inr (.inl ⟨rfl, ha⟩), B1⟩
      case measure => simp [intOf]
    · go_wp2_with (go_at_call 16; refine (ccheck_is q m d ms 0 _ (Lib.hid (hz.out.below HB.out)) hsm2 (Lib.hid (hkey.out.below HB.out)) hb).mono ?_; rintro e w1 ⟨rfl, hbl⟩; have B1 := Lib.hid (bel_trans HB.out hbl); clear hbl)
      go_roundw
      case rel => exact ⟨.inr (.inr ⟨rfl, ha, hb⟩), B1⟩
      case measure => simp [intOf]
    · go_upto_region 8 with fail
      refine wp_region_any (by kernel_rfl) ?_
      change wpAny _ _ _ _ _ _ _ (World.drew _)
      generalize hWD : World.drew _ = V
      have BX := Lib.hid (show Below w.heap.size w V by rw [← hWD]; exact HB.out.drew)
      clear hWD
      have hCD : ∀ u, Ext V u → Ext V u := fun u hu => hu
      refine region_U (D := Ext V) (Ext V) [18] (Ext.refl V) ?_
      refine anyU_takeP (i := 0) (j := 18) (v := .slice p 0 c) 21 [8, 3, 2, 1] rfl rfl (by kernel_rfl) (by kernel_rfl) (by kernel_rfl) (fun _ _ _ h => h) (by kernel_rfl) (Ext.stable _) hCD (yieldsU_val rfl (fun u hu => by go_simp)) ?_
      refine anyU_takeP (i := 1) (j := 18) (v := .int .i64 0) 22 [8, 3, 2] rfl rfl (by kernel_rfl) (by kernel_rfl) (by kernel_rfl) (fun _ _ _ h => h) (by kernel_rfl) (Ext.stable _) hCD (yieldsU_val rfl (fun u hu => by go_simp)) ?_
      refine anyU_takeP (i := 2) (j := 18) (v := .bool false) 23 [8, 3] rfl rfl (by kernel_rfl) (by kernel_rfl) (by kernel_rfl) (fun _ _ _ h => h) (by kernel_rfl) (Ext.stable _) hCD (yieldsU_val rfl (fun u hu => by go_simp)) ?_
      refine anyU_takeP (i := 3) (j := 18) (v := .bool false) 24 [8] rfl rfl (by kernel_rfl) (by kernel_rfl) (by kernel_rfl) (fun _ _ _ h => h) (by kernel_rfl) (Ext.stable _) hCD (yieldsU_val rfl (fun u hu => by go_simp)) ?_
      simp only [Act.put, List.setIfInBounds_toArray, List.set_cons_succ, List.set_cons_zero]
      refine anyU_takeP (i := 4) (j := 18) (v := undef) 25 [8, 7, 6, 5] rfl rfl (by kernel_rfl) (by kernel_rfl) (by kernel_rfl) (fun _ _ _ h => h) (by kernel_rfl) (Ext.stable _) hCD (.inr ⟨by rfl, rfl⟩) ?_
      refine anyU_takeP (i := 5) (j := 18) (v := undef) 26 [8, 7, 6] rfl rfl (by kernel_rfl) (by kernel_rfl) (by kernel_rfl) (fun _ _ _ h => h) (by kernel_rfl) (Ext.stable _) hCD (.inr ⟨by rfl, rfl⟩) ?_
      refine anyU_takeP (i := 6) (j := 18) (v := undef) 27 [8, 7] rfl rfl (by kernel_rfl) (by kernel_rfl) (by kernel_rfl) (fun _ _ _ h => h) (by kernel_rfl) (Ext.stable _) hCD (.inr ⟨by rfl, rfl⟩) ?_
      simp only [Act.put, List.setIfInBounds_toArray, List.set_cons_succ, List.set_cons_zero]
      refine anyU_takeP (i := 7) (j := 18) (v := .bool false) 28 [8] rfl rfl (by kernel_rfl) (by kernel_rfl) (by kernel_rfl) (fun _ _ _ h => h) (by kernel_rfl) (Ext.stable _) hCD (yieldsU_val rfl (fun u hu => by go_simp)) ?_
      refine anyU_takeP (i := 8) (j := 18) (v := .bool false) 29 [] rfl rfl (by kernel_rfl) (by kernel_rfl) (by kernel_rfl) (fun _ _ _ h => h) (by kernel_rfl) (Ext.stable _) hCD (yieldsU_val rfl (fun u hu => by go_simp)) ?_
      simp only [Act.put, List.setIfInBounds_toArray, List.set_cons_succ, List.set_cons_zero]
      refine anyU_takeP (i := 9) (j := 18) (v := undef) 30 [17, 12, 11, 10] rfl rfl (by kernel_rfl) (by kernel_rfl) (by kernel_rfl) (fun _ _ _ h => h) (by kernel_rfl) (Ext.stable _) hCD (.inr ⟨by rfl, rfl⟩) ?_
      refine anyU_takeP (i := 10) (j := 18) (v := undef) 31 [17, 12, 11] rfl rfl (by kernel_rfl) (by kernel_rfl) (by kernel_rfl) (fun _ _ _ h => h) (by kernel_rfl) (Ext.stable _) hCD (.inr ⟨by rfl, rfl⟩) ?_
      refine anyU_takeP (i := 11) (j := 18) (v := undef) 32 [17, 12] rfl rfl (by kernel_rfl) (by kernel_rfl) (by kernel_rfl) (fun _ _ _ h => h) (by kernel_rfl) (Ext.stable _) hCD (.inr ⟨by rfl, rfl⟩) ?_
      refine anyU_takeP (i := 12) (j := 18) (v := undef) 33 [17] rfl rfl (by kernel_rfl) (by kernel_rfl) (by kernel_rfl) (fun _ _ _ h => h) (by kernel_rfl) (Ext.stable _) hCD (.inr ⟨by rfl, rfl⟩) ?_
      simp only [Act.put, List.setIfInBounds_toArray, List.set_cons_succ, List.set_cons_zero]
      refine anyU_takeP (i := 13) (j := 18) (v := undef) 34 [17, 16, 15, 14] rfl rfl (by kernel_rfl) (by kernel_rfl) (by kernel_rfl) (fun _ _ _ h => h) (by kernel_rfl) (Ext.stable _) hCD (.inr ⟨by rfl, rfl⟩) ?_
      refine anyU_takeP (i := 14) (j := 18) (v := undef) 35 [17, 16, 15] rfl rfl (by kernel_rfl) (by kernel_rfl) (by kernel_rfl) (fun _ _ _ h => h) (by kernel_rfl) (Ext.stable _) hCD (.inr ⟨by rfl, rfl⟩) ?_
      refine anyU_takeP (i := 15) (j := 18) (v := undef) 36 [17, 16] rfl rfl (by kernel_rfl) (by kernel_rfl) (by kernel_rfl) (fun _ _ _ h => h) (by kernel_rfl) (Ext.stable _) hCD (.inr ⟨by rfl, rfl⟩) ?_
      refine anyU_takeP (i := 16) (j := 18) (v := undef) 37 [17] rfl rfl (by kernel_rfl) (by kernel_rfl) (by kernel_rfl) (fun _ _ _ h => h) (by kernel_rfl) (Ext.stable _) hCD (.inr ⟨by rfl, rfl⟩) ?_
      refine anyU_takeP (i := 17) (j := 18) (v := undef) 38 [] rfl rfl (by kernel_rfl) (by kernel_rfl) (by kernel_rfl) (fun _ _ _ h => h) (by kernel_rfl) (Ext.stable _) hCD (.inr ⟨by rfl, rfl⟩) ?_
      simp only [Act.put, List.setIfInBounds_toArray, List.set_cons_succ, List.set_cons_zero]
      refine anyU_tail 18 [] rfl rfl (by decide) (by kernel_rfl) ?_
      intro w6 hu6
      simp only [Act.put, List.filterMap_cons, List.filterMap_nil, List.getElem?_cons_succ, List.getElem?_cons_zero]
      have B6 := Lib.hid (bel_trans BX.out hu6)
      clear hu6 BX
      go_wp2_with (go_at_call 25; refine (cfirst_is p q 0 c m d ls ms _ (Lib.hid (hs.out.below B6.out)) (Lib.hid (hz.out.below B6.out)) hsm hsm2 ri rb hres).mono ?_; rintro e w7 ⟨rfl, hbl⟩; have B7 := Lib.hid (bel_trans B6.out hbl); clear hbl)
      refine bodyPost_ret (v := .tuple #[.int .i64 ri, .bool rb, .int .i64 0]) (by simp [results, Tryd.results12, go_sem]) rfl ⟨rfl, B7.out⟩
set_option maxRecDepth 100000 in
set_option maxHeartbeats 4000000 in
theorem cpart_m0 (p q : Option Addr) (n c m d : Nat) (ls ms : List Lk) (w : World) (hs : Hid (LksV w p n c ls)) (hz : Hid (LksV w q m d ms)) (hsm : Hid (Small ls)) (hsm2 : Hid (Small ms)) (hkey : Hid (KeysAt w)) (ha : Hid (IsChk ls 0)) (hb : Hid (IsChk ms 0)) (hn0 : 0 < n) (hm0 : m = 0) (ri : Int) (rb : Bool) (hres : Hid (IsFst ls ms (min n m) ri rb)) :
    Calls Tryd.prog 12 #[.slice p n c, .slice q m d] w fun e w' => e = .returned (.tuple #[.int .i64 ri, .bool rb, .int .i64 0]) ∧ Below w.heap.size w w' := by
  subst hm0
  have hnc := hs.out.nc
  have hcm := hs.out.cm
  have hmd := hz.out.nc
  have hdm := hz.out.cm
  have hn40 : n ≤ 40 := by have := hsm.out.n; have := hs.out.len; omega
  have hm40 : 0 ≤ 40 := by have := hsm2.out.n; have := hz.out.len; omega
  have i0 : ∀ w, (Instr.index 47 (.agg #[.slice p n c, .slice q 0 d]) (.int .i64 0)).run Tryd.prog w = .ok (.slice p n c) w := fun _ => by kernel_rfl
  have i1 : ∀ w, (Instr.index 47 (.agg #[.slice p n c, .slice q 0 d]) (.int .i64 1)).run Tryd.prog w = .ok (.slice q 0 d) w := fun _ => by kernel_rfl
  have B0 := Lib.hid (Below.refl w.heap.size w)
  go_enter Tryd.func12, Tryd.ntmps12
  go_wp2_with fail
  go_loopw [12] (fun i wr => (i = .int .i64 0 ∨ (i = .int .i64 1 ∧ Hid (IsChk ls 0)) ∨ (i = .int .i64 2 ∧ Hid (IsChk ls 0) ∧ Hid (IsChk ms 0))) ∧ Hid (Below w.heap.size w wr)) (fun i _ => (2 - intOf i).toNat)
  case atStart => exact ⟨.inl rfl, B0⟩
  case round =>
    clear B0
    obtain ⟨hi, HB⟩ := hrel
    rcases hi with rfl | ⟨rfl, h1⟩ | ⟨rfl, h1, h2⟩
    · go_wp2_with (go_at_call 16; refine (ccheck_is p n c ls 0 _ (Lib.hid (hs.out.below HB.out)) hsm (Lib.hid (hkey.out.below HB.out)) ha).mono ?_; rintro e w1 ⟨rfl, hbl⟩; have B1 := Lib.hid (bel_trans HB.out hbl); clear hbl)
      go_roundw
      case rel => exact ⟨.inr (.inl ⟨rfl, ha⟩), B1⟩
      case measure => simp [intOf]
    · go_wp2_with (go_at_call 16; refine (ccheck_is q 0 d ms 0 _ (Lib.hid (hz.out.below HB.out)) hsm2 (Lib.hid (hkey.out.below HB.out)) hb).mono ?_; rintro e w1 ⟨rfl, hbl⟩; have B1 := Lib.hid (bel_trans HB.out hbl); clear hbl)
      go_roundw
      case rel => exact ⟨.inr (.inr ⟨rfl, ha, hb⟩), B1⟩
      case measure => simp [intOf]
    · go_upto_region 8 with fail
      refine wp_region_any (by kernel_rfl) ?_
      change wpAny _ _ _ _ _ _ _ (World.drew _)
      generalize hWD : World.drew _ = V
      have BX := Lib.hid (show Below w.heap.size w V by rw [← hWD]; exact HB.out.drew)
      clear hWD
      have hCD : ∀ u, Ext V u → Ext V u := fun u hu => hu
      refine region_U (D := Ext V) (Ext V) [18] (Ext.refl V) ?_
      refine anyU_takeP (i := 0) (j := 18) (v := .slice p n c) 21 [8, 3, 2, 1] rfl rfl (by kernel_rfl) (by kernel_rfl) (by kernel_rfl) (fun _ _ _ h => h) (by kernel_rfl) (Ext.stable _) hCD (yieldsU_val rfl (fun u hu => by go_simp)) ?_
      refine anyU_takeP (i := 1) (j := 18) (v := .int .i64 (n : Int)) 22 [8, 3, 2] rfl rfl (by kernel_rfl) (by kernel_rfl) (by kernel_rfl) (fun _ _ _ h => h) (by kernel_rfl) (Ext.stable _) hCD (yieldsU_val rfl (fun u hu => by go_simp)) ?_
      refine anyU_takeP (i := 2) (j := 18) (v := .bool true) 23 [8, 3] rfl rfl (by kernel_rfl) (by kernel_rfl) (by kernel_rfl) (fun _ _ _ h => h) (by kernel_rfl) (Ext.stable _) hCD (yieldsU_val rfl (fun u hu => by go_simp)) ?_
      refine anyU_takeP (i := 3) (j := 18) (v := .bool true) 24 [8] rfl rfl (by kernel_rfl) (by kernel_rfl) (by kernel_rfl) (fun _ _ _ h => h) (by kernel_rfl) (Ext.stable _) hCD (yieldsU_val rfl (fun u hu => by go_simp)) ?_
      simp only [Act.put, List.setIfInBounds_toArray, List.set_cons_succ, List.set_cons_zero]
      refine anyU_takeP (i := 4) (j := 18) (v := .slice q 0 d) 25 [8, 7, 6, 5] rfl rfl (by kernel_rfl) (by kernel_rfl) (by kernel_rfl) (fun _ _ _ h => h) (by kernel_rfl) (Ext.stable _) hCD (yieldsU_val rfl (fun u hu => by go_simp)) ?_
      refine anyU_takeP (i := 5) (j := 18) (v := .int .i64 0) 26 [8, 7, 6] rfl rfl (by kernel_rfl) (by kernel_rfl) (by kernel_rfl) (fun _ _ _ h => h) (by kernel_rfl) (Ext.stable _) hCD (yieldsU_val rfl (fun u hu => by go_simp)) ?_
      refine anyU_takeP (i := 6) (j := 18) (v := .bool false) 27 [8, 7] rfl rfl (by kernel_rfl) (by kernel_rfl) (by kernel_rfl) (fun _ _ _ h => h) (by kernel_rfl) (Ext.stable _) hCD (yieldsU_val rfl (fun u hu => by go_simp)) ?_
      simp only [Act.put, List.setIfInBounds_toArray, List.set_cons_succ, List.set_cons_zero]
      refine anyU_takeP (i := 7) (j := 18) (v := .bool false) 28 [8] rfl rfl (by kernel_rfl) (by kernel_rfl) (by kernel_rfl) (fun _ _ _ h => h) (by kernel_rfl) (Ext.stable _) hCD (yieldsU_val rfl (fun u hu => by go_simp)) ?_
      refine anyU_takeP (i := 8) (j := 18) (v := .bool false) 29 [] rfl rfl (by kernel_rfl) (by kernel_rfl) (by kernel_rfl) (fun _ _ _ h => h) (by kernel_rfl) (Ext.stable _) hCD (yieldsU_val rfl (fun u hu => by go_simp)) ?_
      simp only [Act.put, List.setIfInBounds_toArray, List.set_cons_succ, List.set_cons_zero]
      refine anyU_takeP (i := 9) (j := 18) (v := undef) 30 [17, 12, 11, 10] rfl rfl (by kernel_rfl) (by kernel_rfl) (by kernel_rfl) (fun _ _ _ h => h) (by kernel_rfl) (Ext.stable _) hCD (.inr ⟨by rfl, rfl⟩) ?_
      refine anyU_takeP (i := 10) (j := 18) (v := undef) 31 [17, 12, 11] rfl rfl (by kernel_rfl) (by kernel_rfl) (by kernel_rfl) (fun _ _ _ h => h) (by kernel_rfl) (Ext.stable _) hCD (.inr ⟨by rfl, rfl⟩) ?_
      refine anyU_takeP (i := 11) (j := 18) (v := undef) 32 [17, 12] rfl rfl (by kernel_rfl) (by kernel_rfl) (by kernel_rfl) (fun _ _ _ h => h) (by kernel_rfl) (Ext.stable _) hCD (.inr ⟨by rfl, rfl⟩) ?_
      refine anyU_takeP (i := 12) (j := 18) (v := undef) 33 [17] rfl rfl (by kernel_rfl) (by kernel_rfl) (by kernel_rfl) (fun _ _ _ h => h) (by kernel_rfl) (Ext.stable _) hCD (.inr ⟨by rfl, rfl⟩) ?_
      simp only [Act.put, List.setIfInBounds_toArray, List.set_cons_succ, List.set_cons_zero]
      refine anyU_takeP (i := 13) (j := 18) (v := undef) 34 [17, 16, 15, 14] rfl rfl (by kernel_rfl) (by kernel_rfl) (by kernel_rfl) (fun _ _ _ h => h) (by kernel_rfl) (Ext.stable _) hCD (.inr ⟨by rfl, rfl⟩) ?_
      refine anyU_takeP (i := 14) (j := 18) (v := undef) 35 [17, 16, 15] rfl rfl (by kernel_rfl) (by kernel_rfl) (by kernel_rfl) (fun _ _ _ h => h) (by kernel_rfl) (Ext.stable _) hCD (.inr ⟨by rfl, rfl⟩) ?_
      refine anyU_takeP (i := 15) (j := 18) (v := undef) 36 [17, 16] rfl rfl (by kernel_rfl) (by kernel_rfl) (by kernel_rfl) (fun _ _ _ h => h) (by kernel_rfl) (Ext.stable _) hCD (.inr ⟨by rfl, rfl⟩) ?_
      refine anyU_takeP (i := 16) (j := 18) (v := undef) 37 [17] rfl rfl (by kernel_rfl) (by kernel_rfl) (by kernel_rfl) (fun _ _ _ h => h) (by kernel_rfl) (Ext.stable _) hCD (.inr ⟨by rfl, rfl⟩) ?_
      refine anyU_takeP (i := 17) (j := 18) (v := undef) 38 [] rfl rfl (by kernel_rfl) (by kernel_rfl) (by kernel_rfl) (fun _ _ _ h => h) (by kernel_rfl) (Ext.stable _) hCD (.inr ⟨by rfl, rfl⟩) ?_
      simp only [Act.put, List.setIfInBounds_toArray, List.set_cons_succ, List.set_cons_zero]
      refine anyU_tail 18 [] rfl rfl (by decide) (by kernel_rfl) ?_
      intro w6 hu6
      simp only [Act.put, List.filterMap_cons, List.filterMap_nil, List.getElem?_cons_succ, List.getElem?_cons_zero]
      have B6 := Lib.hid (bel_trans BX.out hu6)
      clear hu6 BX
      go_wp2_with (go_at_call 25; refine (cfirst_is p q n c 0 d ls ms _ (Lib.hid (hs.out.below B6.out)) (Lib.hid (hz.out.below B6.out)) hsm hsm2 ri rb hres).mono ?_; rintro e w7 ⟨rfl, hbl⟩; have B7 := Lib.hid (bel_trans B6.out hbl); clear hbl)
      refine bodyPost_ret (v := .tuple #[.int .i64 ri, .bool rb, .int .i64 0]) (by simp [results, Tryd.results12, go_sem]) rfl ⟨rfl, B7.out⟩
set_option maxRecDepth 100000 in
set_option maxHeartbeats 4000000 in
theorem cpart_same (p q : Option Addr) (n c m d : Nat) (ls ms : List Lk) (w : World) (hs : Hid (LksV w p n c ls)) (hz : Hid (LksV w q m d ms)) (hsm : Hid (Small ls)) (hsm2 : Hid (Small ms)) (hkey : Hid (KeysAt w)) (ha : Hid (IsChk ls 0)) (hb : Hid (IsChk ms 0)) (hn0 : 0 < n) (hm0 : 0 < m) (hsn : (ls.getD 0 lk0).node = (ms.getD 0 lk0).node) (ri : Int) (rb : Bool) (hres : Hid (IsFst ls ms (min n m) ri rb)) :
    Calls Tryd.prog 12 #[.slice p n c, .slice q m d] w fun e w' => e = .returned (.tuple #[.int .i64 ri, .bool rb, .int .i64 0]) ∧ Below w.heap.size w w' := by
  obtain ⟨b, off, hp, hb', hr, hl⟩ := hs.out.at hn0
  rw [show off + 0 * 35 = off by omega] at hr
  obtain ⟨x, hx⟩ : ∃ x, ls.getD 0 lk0 = x := ⟨_, rfl⟩
  rw [hx] at hr hl hsn
  have NX := Lib.hid (lk_cells hr hl.len).1
  subst hp
  clear hr hl hx
  obtain ⟨b2, off2, hp, hb2', hr, hl⟩ := hz.out.at hm0
  rw [show off2 + 0 * 35 = off2 by omega] at hr
  obtain ⟨y, hy⟩ : ∃ y, ms.getD 0 lk0 = y := ⟨_, rfl⟩
  rw [hy] at hr hl hsn
  have NY := Lib.hid (lk_cells hr hl.len).1
  subst hp
  clear hr hl hy
  rw [← hsn] at NY
  have hnc := hs.out.nc
  have hcm := hs.out.cm
  have hmd := hz.out.nc
  have hdm := hz.out.cm
  have hn40 : n ≤ 40 := by have := hsm.out.n; have := hs.out.len; omega
  have hm40 : m ≤ 40 := by have := hsm2.out.n; have := hz.out.len; omega
  have i0 : ∀ w, (Instr.index 47 (.agg #[.slice (some ⟨b, off, none⟩) n c, .slice (some ⟨b2, off2, none⟩) m d]) (.int .i64 0)).run Tryd.prog w = .ok (.slice (some ⟨b, off, none⟩) n c) w := fun _ => by kernel_rfl
  have i1 : ∀ w, (Instr.index 47 (.agg #[.slice (some ⟨b, off, none⟩) n c, .slice (some ⟨b2, off2, none⟩) m d]) (.int .i64 1)).run Tryd.prog w = .ok (.slice (some ⟨b2, off2, none⟩) m d) w := fun _ => by kernel_rfl
  have B0 := Lib.hid (Below.refl w.heap.size w)
  go_enter Tryd.func12, Tryd.ntmps12
  go_wp2_with fail
  go_loopw [12] (fun i wr => (i = .int .i64 0 ∨ (i = .int .i64 1 ∧ Hid (IsChk ls 0)) ∨ (i = .int .i64 2 ∧ Hid (IsChk ls 0) ∧ Hid (IsChk ms 0))) ∧ Hid (Below w.heap.size w wr)) (fun i _ => (2 - intOf i).toNat)
  case atStart => exact ⟨.inl rfl, B0⟩
  case round =>
    clear B0
    obtain ⟨hi, HB⟩ := hrel
    rcases hi with rfl | ⟨rfl, h1⟩ | ⟨rfl, h1, h2⟩
    · go_wp2_with (go_at_call 16; refine (ccheck_is (some ⟨b, off, none⟩) n c ls 0 _ (Lib.hid (hs.out.below HB.out)) hsm (Lib.hid (hkey.out.below HB.out)) ha).mono ?_; rintro e w1 ⟨rfl, hbl⟩; have B1 := Lib.hid (bel_trans HB.out hbl); clear hbl)
      go_roundw
      case rel => exact ⟨.inr (.inl ⟨rfl, ha⟩), B1⟩
      case measure => simp [intOf]
    · go_wp2_with (go_at_call 16; refine (ccheck_is (some ⟨b2, off2, none⟩) m d ms 0 _ (Lib.hid (hz.out.below HB.out)) hsm2 (Lib.hid (hkey.out.below HB.out)) hb).mono ?_; rintro e w1 ⟨rfl, hbl⟩; have B1 := Lib.hid (bel_trans HB.out hbl); clear hbl)
      go_roundw
      case rel => exact ⟨.inr (.inr ⟨rfl, ha, hb⟩), B1⟩
      case measure => simp [intOf]
    · go_upto_region 8 with fail
      refine wp_region_any (by kernel_rfl) ?_
      change wpAny _ _ _ _ _ _ _ (World.drew _)
      generalize hWD : World.drew _ = V
      have BX := Lib.hid (show Below w.heap.size w V by rw [← hWD]; exact HB.out.drew)
      have N1 := Lib.hid (show V.cell? ⟨b, off, none⟩ = some (.int .i64 x.node) by rw [← hWD]; exact (HB.out.cell (p := ⟨b, off, none⟩) hb').trans NX.out)
      have N2 := Lib.hid (show V.cell? ⟨b2, off2, none⟩ = some (.int .i64 x.node) by rw [← hWD]; exact (HB.out.cell (p := ⟨b2, off2, none⟩) hb2').trans NY.out)
      have hbV : b < V.heap.size := by rw [← hWD]; exact Nat.lt_of_lt_of_le hb' HB.out.size
      have hb2V : b2 < V.heap.size := by rw [← hWD]; exact Nat.lt_of_lt_of_le hb2' HB.out.size
      clear hWD
      have hCD : ∀ u, Ext V u → Ext V u := fun u hu => hu
      refine region_U (D := Ext V) (Ext V) [18] (Ext.refl V) ?_
      refine anyU_takeP (i := 0) (j := 18) (v := .slice (some ⟨b, off, none⟩) n c) 21 [8, 3, 2, 1] rfl rfl (by kernel_rfl) (by kernel_rfl) (by kernel_rfl) (fun _ _ _ h => h) (by kernel_rfl) (Ext.stable _) hCD (yieldsU_val rfl (fun u hu => by go_simp)) ?_
      refine anyU_takeP (i := 1) (j := 18) (v := .int .i64 (n : Int)) 22 [8, 3, 2] rfl rfl (by kernel_rfl) (by kernel_rfl) (by kernel_rfl) (fun _ _ _ h => h) (by kernel_rfl) (Ext.stable _) hCD (yieldsU_val rfl (fun u hu => by go_simp)) ?_
      refine anyU_takeP (i := 2) (j := 18) (v := .bool true) 23 [8, 3] rfl rfl (by kernel_rfl) (by kernel_rfl) (by kernel_rfl) (fun _ _ _ h => h) (by kernel_rfl) (Ext.stable _) hCD (yieldsU_val rfl (fun u hu => by go_simp)) ?_
      refine anyU_takeP (i := 3) (j := 18) (v := .bool true) 24 [8] rfl rfl (by kernel_rfl) (by kernel_rfl) (by kernel_rfl) (fun _ _ _ h => h) (by kernel_rfl) (Ext.stable _) hCD (yieldsU_val rfl (fun u hu => by go_simp)) ?_
      simp only [Act.put, List.setIfInBounds_toArray, List.set_cons_succ, List.set_cons_zero]
      refine anyU_takeP (i := 4) (j := 18) (v := .slice (some ⟨b2, off2, none⟩) m d) 25 [8, 7, 6, 5] rfl rfl (by kernel_rfl) (by kernel_rfl) (by kernel_rfl) (fun _ _ _ h => h) (by kernel_rfl) (Ext.stable _) hCD (yieldsU_val rfl (fun u hu => by go_simp)) ?_
      refine anyU_takeP (i := 5) (j := 18) (v := .int .i64 (m : Int)) 26 [8, 7, 6] rfl rfl (by kernel_rfl) (by kernel_rfl) (by kernel_rfl) (fun _ _ _ h => h) (by kernel_rfl) (Ext.stable _) hCD (yieldsU_val rfl (fun u hu => by go_simp)) ?_
      refine anyU_takeP (i := 6) (j := 18) (v := .bool true) 27 [8, 7] rfl rfl (by kernel_rfl) (by kernel_rfl) (by kernel_rfl) (fun _ _ _ h => h) (by kernel_rfl) (Ext.stable _) hCD (yieldsU_val rfl (fun u hu => by go_simp)) ?_
      simp only [Act.put, List.setIfInBounds_toArray, List.set_cons_succ, List.set_cons_zero]
      refine anyU_takeP (i := 7) (j := 18) (v := .bool true) 28 [8] rfl rfl (by kernel_rfl) (by kernel_rfl) (by kernel_rfl) (fun _ _ _ h => h) (by kernel_rfl) (Ext.stable _) hCD (yieldsU_val rfl (fun u hu => by go_simp)) ?_
      refine anyU_takeP (i := 8) (j := 18) (v := .bool true) 29 [] rfl rfl (by kernel_rfl) (by kernel_rfl) (by kernel_rfl) (fun _ _ _ h => h) (by kernel_rfl) (Ext.stable _) hCD (yieldsU_val rfl (fun u hu => by go_simp)) ?_
      simp only [Act.put, List.setIfInBounds_toArray, List.set_cons_succ, List.set_cons_zero]
      refine anyU_takeP (i := 9) (j := 18) (v := .slice (some ⟨b, off, none⟩) n c) 30 [17, 12, 11, 10] rfl rfl (by kernel_rfl) (by kernel_rfl) (by kernel_rfl) (fun _ _ _ h => h) (by kernel_rfl) (Ext.stable _) hCD (yieldsU_val rfl (fun u hu => by go_simp)) ?_
      refine anyU_takeP (i := 10) (j := 18) (v := .pointer (some ⟨b, off, none⟩)) 31 [17, 12, 11] rfl rfl (by kernel_rfl) (by kernel_rfl) (by kernel_rfl) (fun _ _ _ h => h) (by kernel_rfl) (Ext.stable _) hCD (yieldsU_val rfl (fun u hu => by go_simp)) ?_
      refine anyU_takeP (i := 11) (j := 18) (v := .pointer (some ⟨b, off, none⟩)) 32 [17, 12] rfl rfl (by kernel_rfl) (by kernel_rfl) (by kernel_rfl) (fun _ _ _ h => h) (by kernel_rfl) (Ext.stable _) hCD (yieldsU_val rfl (fun u hu => by go_simp)) ?_
      refine anyU_takeP (i := 12) (j := 18) (v := .int .i64 x.node) 33 [17] rfl rfl (by kernel_rfl) (by kernel_rfl) (by kernel_rfl) (fun _ _ _ h => h) (by kernel_rfl) (Ext.stable _) hCD (yieldsU_val rfl (fun u hu => by have cc := (hu.cell (p := ⟨b, off, none⟩) hbV).trans N1.out; go_simp)) ?_
      simp only [Act.put, List.setIfInBounds_toArray, List.set_cons_succ, List.set_cons_zero]
      refine anyU_takeP (i := 13) (j := 18) (v := .slice (some ⟨b2, off2, none⟩) m d) 34 [17, 16, 15, 14] rfl rfl (by kernel_rfl) (by kernel_rfl) (by kernel_rfl) (fun _ _ _ h => h) (by kernel_rfl) (Ext.stable _) hCD (yieldsU_val rfl (fun u hu => by go_simp)) ?_
      refine anyU_takeP (i := 14) (j := 18) (v := .pointer (some ⟨b2, off2, none⟩)) 35 [17, 16, 15] rfl rfl (by kernel_rfl) (by kernel_rfl) (by kernel_rfl) (fun _ _ _ h => h) (by kernel_rfl) (Ext.stable _) hCD (yieldsU_val rfl (fun u hu => by go_simp)) ?_
      refine anyU_takeP (i := 15) (j := 18) (v := .pointer (some ⟨b2, off2, none⟩)) 36 [17, 16] rfl rfl (by kernel_rfl) (by kernel_rfl) (by kernel_rfl) (fun _ _ _ h => h) (by kernel_rfl) (Ext.stable _) hCD (yieldsU_val rfl (fun u hu => by go_simp)) ?_
      refine anyU_takeP (i := 16) (j := 18) (v := .int .i64 x.node) 37 [17] rfl rfl (by kernel_rfl) (by kernel_rfl) (by kernel_rfl) (fun _ _ _ h => h) (by kernel_rfl) (Ext.stable _) hCD (yieldsU_val rfl (fun u hu => by have cc := (hu.cell (p := ⟨b2, off2, none⟩) hb2V).trans N2.out; go_simp)) ?_
      refine anyU_takeP (i := 17) (j := 18) (v := .bool false) 38 [] rfl rfl (by kernel_rfl) (by kernel_rfl) (by kernel_rfl) (fun _ _ _ h => h) (by kernel_rfl) (Ext.stable _) hCD (yieldsU_val rfl (fun u hu => by go_simp)) ?_
      simp only [Act.put, List.setIfInBounds_toArray, List.set_cons_succ, List.set_cons_zero]
      refine anyU_tail 18 [] rfl rfl (by decide) (by kernel_rfl) ?_
      intro w6 hu6
      simp only [Act.put, List.filterMap_cons, List.filterMap_nil, List.getElem?_cons_succ, List.getElem?_cons_zero]
      have B6 := Lib.hid (bel_trans BX.out hu6)
      clear hu6 BX
      go_wp2_with (go_at_call 25; refine (cfirst_is (some ⟨b, off, none⟩) (some ⟨b2, off2, none⟩) n c m d ls ms _ (Lib.hid (hs.out.below B6.out)) (Lib.hid (hz.out.below B6.out)) hsm hsm2 ri rb hres).mono ?_; rintro e w7 ⟨rfl, hbl⟩; have B7 := Lib.hid (bel_trans B6.out hbl); clear hbl)
      refine bodyPost_ret (v := .tuple #[.int .i64 ri, .bool rb, .int .i64 0]) (by simp [results, Tryd.results12, go_sem]) rfl ⟨rfl, B7.out⟩
set_option maxRecDepth 100000 in
set_option maxHeartbeats 4000000 in
theorem cpart_diff (p q : Option Addr) (n c m d : Nat) (ls ms : List Lk) (w : World) (hs : Hid (LksV w p n c ls)) (hz : Hid (LksV w q m d ms)) (hsm : Hid (Small ls)) (hsm2 : Hid (Small ms)) (hkey : Hid (KeysAt w)) (ha : Hid (IsChk ls 0)) (hb : Hid (IsChk ms 0)) (hn0 : 0 < n) (hm0 : 0 < m) (hsn : ¬ (ls.getD 0 lk0).node = (ms.getD 0 lk0).node) :
    Calls Tryd.prog 12 #[.slice p n c, .slice q m d] w fun e w' => e = .returned (.tuple #[.int .i64 0, .bool false, .int .i64 80]) ∧ Below w.heap.size w w' := by
  obtain ⟨b, off, hp, hb', hr, hl⟩ := hs.out.at hn0
  rw [show off + 0 * 35 = off by omega] at hr
  obtain ⟨x, hx⟩ : ∃ x, ls.getD 0 lk0 = x := ⟨_, rfl⟩
  rw [hx] at hr hl hsn
  have NX := Lib.hid (lk_cells hr hl.len).1
  subst hp
  clear hr hl hx
  obtain ⟨b2, off2, hp, hb2', hr, hl⟩ := hz.out.at hm0
  rw [show off2 + 0 * 35 = off2 by omega] at hr
  obtain ⟨y, hy⟩ : ∃ y, ms.getD 0 lk0 = y := ⟨_, rfl⟩
  rw [hy] at hr hl hsn
  have NY := Lib.hid (lk_cells hr hl.len).1
  subst hp
  clear hr hl hy
  have hd1 : decide (x.node = y.node) = false := decide_eq_false hsn
  have hd2 : (x.node == y.node) = false := by simpa using hsn
  have hnc := hs.out.nc
  have hcm := hs.out.cm
  have hmd := hz.out.nc
  have hdm := hz.out.cm
  have hn40 : n ≤ 40 := by have := hsm.out.n; have := hs.out.len; omega
  have hm40 : m ≤ 40 := by have := hsm2.out.n; have := hz.out.len; omega
  have i0 : ∀ w, (Instr.index 47 (.agg #[.slice (some ⟨b, off, none⟩) n c, .slice (some ⟨b2, off2, none⟩) m d]) (.int .i64 0)).run Tryd.prog w = .ok (.slice (some ⟨b, off, none⟩) n c) w := fun _ => by kernel_rfl
  have i1 : ∀ w, (Instr.index 47 (.agg #[.slice (some ⟨b, off, none⟩) n c, .slice (some ⟨b2, off2, none⟩) m d]) (.int .i64 1)).run Tryd.prog w = .ok (.slice (some ⟨b2, off2, none⟩) m d) w := fun _ => by kernel_rfl
  have B0 := Lib.hid (Below.refl w.heap.size w)
  go_enter Tryd.func12, Tryd.ntmps12
  go_wp2_with fail
  go_loopw [12] (fun i wr => (i = .int .i64 0 ∨ (i = .int .i64 1 ∧ Hid (IsChk ls 0)) ∨ (i = .int .i64 2 ∧ Hid (IsChk ls 0) ∧ Hid (IsChk ms 0))) ∧ Hid (Below w.heap.size w wr)) (fun i _ => (2 - intOf i).toNat)
  case atStart => exact ⟨.inl rfl, B0⟩
  case round =>
    clear B0
    obtain ⟨hi, HB⟩ := hrel
    rcases hi with rfl | ⟨rfl, h1⟩ | ⟨rfl, h1, h2⟩
    · go_wp2_with (go_at_call 16; refine (ccheck_is (some ⟨b, off, none⟩) n c ls 0 _ (Lib.hid (hs.out.below HB.out)) hsm (Lib.hid (hkey.out.below HB.out)) ha).mono ?_; rintro e w1 ⟨rfl, hbl⟩; have B1 := Lib.hid (bel_trans HB.out hbl); clear hbl)
      go_roundw
      case rel => exact ⟨.inr (.inl ⟨rfl, ha⟩), B1⟩
      case measure => simp [intOf]
    · go_wp2_with (go_at_call 16; refine (ccheck_is (some ⟨b2, off2, none⟩) m d ms 0 _ (Lib.hid (hz.out.below HB.out)) hsm2 (Lib.hid (hkey.out.below HB.out)) hb).mono ?_; rintro e w1 ⟨rfl, hbl⟩; have B1 := Lib.hid (bel_trans HB.out hbl); clear hbl)
      go_roundw
      case rel => exact ⟨.inr (.inr ⟨rfl, ha, hb⟩), B1⟩
      case measure => simp [intOf]
    · go_upto_region 8 with fail
      refine wp_region_any (by kernel_rfl) ?_
      change wpAny _ _ _ _ _ _ _ (World.drew _)
      generalize hWD : World.drew _ = V
      have BX := Lib.hid (show Below w.heap.size w V by rw [← hWD]; exact HB.out.drew)
      have N1 := Lib.hid (show V.cell? ⟨b, off, none⟩ = some (.int .i64 x.node) by rw [← hWD]; exact (HB.out.cell (p := ⟨b, off, none⟩) hb').trans NX.out)
      have N2 := Lib.hid (show V.cell? ⟨b2, off2, none⟩ = some (.int .i64 y.node) by rw [← hWD]; exact (HB.out.cell (p := ⟨b2, off2, none⟩) hb2').trans NY.out)
      have hbV : b < V.heap.size := by rw [← hWD]; exact Nat.lt_of_lt_of_le hb' HB.out.size
      have hb2V : b2 < V.heap.size := by rw [← hWD]; exact Nat.lt_of_lt_of_le hb2' HB.out.size
      clear hWD
      have hCD : ∀ u, Ext V u → Ext V u := fun u hu => hu
      refine region_U (D := Ext V) (Ext V) [18] (Ext.refl V) ?_
      refine anyU_takeP (i := 0) (j := 18) (v := .slice (some ⟨b, off, none⟩) n c) 21 [8, 3, 2, 1] rfl rfl (by kernel_rfl) (by kernel_rfl) (by kernel_rfl) (fun _ _ _ h => h) (by kernel_rfl) (Ext.stable _) hCD (yieldsU_val rfl (fun u hu => by go_simp)) ?_
      refine anyU_takeP (i := 1) (j := 18) (v := .int .i64 (n : Int)) 22 [8, 3, 2] rfl rfl (by kernel_rfl) (by kernel_rfl) (by kernel_rfl) (fun _ _ _ h => h) (by kernel_rfl) (Ext.stable _) hCD (yieldsU_val rfl (fun u hu => by go_simp)) ?_
      refine anyU_takeP (i := 2) (j := 18) (v := .bool true) 23 [8, 3] rfl rfl (by kernel_rfl) (by kernel_rfl) (by kernel_rfl) (fun _ _ _ h => h) (by kernel_rfl) (Ext.stable _) hCD (yieldsU_val rfl (fun u hu => by go_simp)) ?_
      refine anyU_takeP (i := 3) (j := 18) (v := .bool true) 24 [8] rfl rfl (by kernel_rfl) (by kernel_rfl) (by kernel_rfl) (fun _ _ _ h => h) (by kernel_rfl) (Ext.stable _) hCD (yieldsU_val rfl (fun u hu => by go_simp)) ?_
      simp only [Act.put, List.setIfInBounds_toArray, List.set_cons_succ, List.set_cons_zero]
      refine anyU_takeP (i := 4) (j := 18) (v := .slice (some ⟨b2, off2, none⟩) m d) 25 [8, 7, 6, 5] rfl rfl (by kernel_rfl) (by kernel_rfl) (by kernel_rfl) (fun _ _ _ h => h) (by kernel_rfl) (Ext.stable _) hCD (yieldsU_val rfl (fun u hu => by go_simp)) ?_
      refine anyU_takeP (i := 5) (j := 18) (v := .int .i64 (m : Int)) 26 [8, 7, 6] rfl rfl (by kernel_rfl) (by kernel_rfl) (by kernel_rfl) (fun _ _ _ h => h) (by kernel_rfl) (Ext.stable _) hCD (yieldsU_val rfl (fun u hu => by go_simp)) ?_
      refine anyU_takeP (i := 6) (j := 18) (v := .bool true) 27 [8, 7] rfl rfl (by kernel_rfl) (by kernel_rfl) (by kernel_rfl) (fun _ _ _ h => h) (by kernel_rfl) (Ext.stable _) hCD (yieldsU_val rfl (fun u hu => by go_simp)) ?_
      simp only [Act.put, List.setIfInBounds_toArray, List.set_cons_succ, List.set_cons_zero]
      refine anyU_takeP (i := 7) (j := 18) (v := .bool true) 28 [8] rfl rfl (by kernel_rfl) (by kernel_rfl) (by kernel_rfl) (fun _ _ _ h => h) (by kernel_rfl) (Ext.stable _) hCD (yieldsU_val rfl (fun u hu => by go_simp)) ?_
      refine anyU_takeP (i := 8) (j := 18) (v := .bool true) 29 [] rfl rfl (by kernel_rfl) (by kernel_rfl) (by kernel_rfl) (fun _ _ _ h => h) (by kernel_rfl) (Ext.stable _) hCD (yieldsU_val rfl (fun u hu => by go_simp)) ?_
      simp only [Act.put, List.setIfInBounds_toArray, List.set_cons_succ, List.set_cons_zero]
      refine anyU_takeP (i := 9) (j := 18) (v := .slice (some ⟨b, off, none⟩) n c) 30 [17, 12, 11, 10] rfl rfl (by kernel_rfl) (by kernel_rfl) (by kernel_rfl) (fun _ _ _ h => h) (by kernel_rfl) (Ext.stable _) hCD (yieldsU_val rfl (fun u hu => by go_simp)) ?_
      refine anyU_takeP (i := 10) (j := 18) (v := .pointer (some ⟨b, off, none⟩)) 31 [17, 12, 11] rfl rfl (by kernel_rfl) (by kernel_rfl) (by kernel_rfl) (fun _ _ _ h => h) (by kernel_rfl) (Ext.stable _) hCD (yieldsU_val rfl (fun u hu => by go_simp)) ?_
      refine anyU_takeP (i := 11) (j := 18) (v := .pointer (some ⟨b, off, none⟩)) 32 [17, 12] rfl rfl (by kernel_rfl) (by kernel_rfl) (by kernel_rfl) (fun _ _ _ h => h) (by kernel_rfl) (Ext.stable _) hCD (yieldsU_val rfl (fun u hu => by go_simp)) ?_
      refine anyU_takeP (i := 12) (j := 18) (v := .int .i64 x.node) 33 [17] rfl rfl (by kernel_rfl) (by kernel_rfl) (by kernel_rfl) (fun _ _ _ h => h) (by kernel_rfl) (Ext.stable _) hCD (yieldsU_val rfl (fun u hu => by have cc := (hu.cell (p := ⟨b, off, none⟩) hbV).trans N1.out; go_simp)) ?_
      simp only [Act.put, List.setIfInBounds_toArray, List.set_cons_succ, List.set_cons_zero]
      refine anyU_takeP (i := 13) (j := 18) (v := .slice (some ⟨b2, off2, none⟩) m d) 34 [17, 16, 15, 14] rfl rfl (by kernel_rfl) (by kernel_rfl) (by kernel_rfl) (fun _ _ _ h => h) (by kernel_rfl) (Ext.stable _) hCD (yieldsU_val rfl (fun u hu => by go_simp)) ?_
      refine anyU_takeP (i := 14) (j := 18) (v := .pointer (some ⟨b2, off2, none⟩)) 35 [17, 16, 15] rfl rfl (by kernel_rfl) (by kernel_rfl) (by kernel_rfl) (fun _ _ _ h => h) (by kernel_rfl) (Ext.stable _) hCD (yieldsU_val rfl (fun u hu => by go_simp)) ?_
      refine anyU_takeP (i := 15) (j := 18) (v := .pointer (some ⟨b2, off2, none⟩)) 36 [17, 16] rfl rfl (by kernel_rfl) (by kernel_rfl) (by kernel_rfl) (fun _ _ _ h => h) (by kernel_rfl) (Ext.stable _) hCD (yieldsU_val rfl (fun u hu => by go_simp)) ?_
      refine anyU_takeP (i := 16) (j := 18) (v := .int .i64 y.node) 37 [17] rfl rfl (by kernel_rfl) (by kernel_rfl) (by kernel_rfl) (fun _ _ _ h => h) (by kernel_rfl) (Ext.stable _) hCD (yieldsU_val rfl (fun u hu => by have cc := (hu.cell (p := ⟨b2, off2, none⟩) hb2V).trans N2.out; go_simp)) ?_
      refine anyU_takeP (i := 17) (j := 18) (v := .bool true) 38 [] rfl rfl (by kernel_rfl) (by kernel_rfl) (by kernel_rfl) (fun _ _ _ h => h) (by kernel_rfl) (Ext.stable _) hCD (yieldsU_val rfl (fun u hu => by go_simp)) ?_
      simp only [Act.put, List.setIfInBounds_toArray, List.set_cons_succ, List.set_cons_zero]
      refine anyU_tail 18 [] rfl rfl (by decide) (by kernel_rfl) ?_
      intro w6 hu6
      simp only [Act.put, List.filterMap_cons, List.filterMap_nil, List.getElem?_cons_succ, List.getElem?_cons_zero]
      have B6 := Lib.hid (bel_trans BX.out hu6)
      clear hu6 BX
      go_wp2_with fail
      refine bodyPost_ret (v := .tuple #[.int .i64 0, .bool false, .int .i64 80]) (by simp [results, Tryd.results12, go_sem]) rfl ⟨rfl, B6.out⟩
end Go.Proofs.YtllcgehfmkmcdaaDoor
