/- For all keys, numbers and stamps, valid or not, Check, Ask and Take match the specification. No condition. -/
import Derived.Test.YtjdkdhpippapmaaGreatDoorStpZE
import Derived.Test.YtjdkdhpippapmaaGreatDoorStpZD
import Derived.Test.YtjdkdhpippapmaaGreatDoorStpOpn
namespace Go.Proofs.YtjdkdhpippapmaaGreatDoor
open Go.ChangeShapes Go.WideShapes Go.ChangeAt Go.RowKit Go.WideElems Go.Shelf
set_option linter.unusedVariables false
set_option linter.unusedSimpArgs false

theorem isChk (key : Int) (zs : List Int) (n c s : Int) : ∃ v, IsChk key zs n c s v := by
  cases h : valB n with
  | false => exact ⟨false, .inl ⟨h, rfl⟩⟩
  | true =>
    obtain ⟨v, hv⟩ := isVer key (encL [.text zs, .int n]) c s
    exact ⟨v, .inr ⟨h, hv⟩⟩
set_option maxRecDepth 100000 in
set_option maxHeartbeats 8000000 in
theorem stampsSpec_core (key r : Int) (zs : List Int) (n u v s : Int) (xs : List Int) (xn xc xe : Int) (vb : Bool) (ca ea : Int) (ts : List Int) (tn tc te et : Int) (w : World) (hl : Hid (zs.length = 32)) (hr : Hid (∀ z ∈ zs, 0 ≤ z ∧ z ≤ 255)) (hlx : Hid (xs.length = 32)) (hrx : Hid (∀ z ∈ xs, 0 ≤ z ∧ z ≤ 255)) (hk : Hid (KeysAt w)) (hlt : Hid (ts.length = 32)) (HVX : Hid (IsChk key xs xn xc xe vb))
    (HA : Hid (∀ q : World, Below w.heap.size w q → Calls Tryz.prog 9 #[.int .i64 key, .int .i64 r, .agg (bv zs).toArray, .int .i64 n, .int .i64 u, .int .i64 v] q fun e w' => e = .returned (.tuple #[.int .i64 ca, .int .i64 ea]) ∧ Below q.heap.size q w')) (HRA : Hid (∀ q : World, Below w.heap.size w q → Calls Tryz.prog 10 #[.int .i64 key, .int .i64 r, .agg (bv zs).toArray, .int .i64 n, .int .i64 u, .int .i64 v] q fun e w' => e = .returned (.tuple #[.int .i64 ca, .int .i64 ea]) ∧ Below q.heap.size q w')) (HT : Hid (∀ q : World, Below w.heap.size w q → Calls Tryz.prog 11 #[.int .i64 key, .int .i64 r, .agg (bv zs).toArray, .int .i64 n, .int .i64 u, .int .i64 v, .int .i64 s] q fun e w' => e = .returned (.tuple #[.agg (stv ts tn tc te).toArray, .int .i64 et]) ∧ Below q.heap.size q w')) (HRT : Hid (∀ q : World, Below w.heap.size w q → Calls Tryz.prog 12 #[.int .i64 key, .int .i64 r, .agg (bv zs).toArray, .int .i64 n, .int .i64 u, .int .i64 v, .int .i64 s] q fun e w' => e = .returned (.tuple #[.agg (stv ts tn tc te).toArray, .int .i64 et]) ∧ Below q.heap.size q w')) :
    Calls Tryz.prog 3 #[.int .i64 key, .int .i64 r, .agg (bv zs).toArray, .int .i64 n, .int .i64 u, .int .i64 v, .int .i64 s, .agg (stv xs xn xc xe).toArray] w fun q w' => q = .returned (.bool true) ∧ Below w.heap.size w w' := by
  have D0 := Lib.hid ((Dg.box w hl.out).alloc (.cells (stv xs xn xc xe).toArray 27))
  have X0 := Lib.hid (show SBlk ((w.alloc (.cells (bv zs).toArray 23)).alloc (.cells (stv xs xn xc xe).toArray 27)) (w.heap.size + 1) 27 xs xn xc xe by have := SBlk.box (w.alloc (.cells (bv zs).toArray 23)) 27 xn xc xe hlx.out; simpa using this)
  have B0 := Lib.hid (show Below w.heap.size w ((w.alloc (.cells (bv zs).toArray 23)).alloc (.cells (stv xs xn xc xe).toArray 27)) from (bel_alloc1 w _).alloc (by simp) _)
  have EQ := eqSt_same ts tn tc te hlt.out
  go_enter Tryz.func3, Tryz.ntmps3
  go_upto_region 6 with (first
    | (go_at_call 8; refine (sane37_any _ (Lib.hid (hk.out.below B0.out))).mono ?_; rintro e w1 ⟨rfl, hb⟩; have B1 := Lib.hid (bel_trans B0.out hb); have D1 := Lib.hid (D0.out.bel hb); have X1 := Lib.hid (X0.out.bel hb); clear hb)
    | (refine list_loadD (by rfl) (.tmp 10) rfl w.heap.size rfl zs D1.out ?_)
    | (go_at_call 9; refine (HA.out _ B1.out).mono ?_; rintro e w2 ⟨rfl, hb⟩; have B2 := Lib.hid (bel_trans B1.out hb); have D2 := Lib.hid (D1.out.bel hb); have X2 := Lib.hid (X1.out.bel hb); clear hb)
    | (refine list_loadD (by rfl) (.tmp 10) rfl w.heap.size rfl zs D2.out ?_)
    | (go_at_call 10; refine (HRA.out _ B2.out).mono ?_; rintro e w3 ⟨rfl, hb⟩; have B3 := Lib.hid (bel_trans B2.out hb); have D3 := Lib.hid (D2.out.bel hb); have X3 := Lib.hid (X2.out.bel hb); clear hb)
    | (refine list_loadD (by rfl) (.tmp 10) rfl w.heap.size rfl zs D3.out ?_)
    | (go_at_call 11; refine (HT.out _ B3.out).mono ?_; rintro e w4 ⟨rfl, hb⟩; have B4 := Lib.hid (bel_trans B3.out hb); have D4 := Lib.hid (D3.out.bel hb); have X4 := Lib.hid (X3.out.bel hb); clear hb)
    | (refine list_storeApi rfl (.tmp 21) (.tmp 56) rfl w4.heap.size rfl ts tn tc te rfl hlt.out 27 (List.replicate 32 0) 0 0 0 (SBlk.new w4 _) ?_))
  intro w5 q5 k5
  have K5 := Lib.hid ((bel_alloc1 w4 _).trans (k5.below (Nat.le_refl _)))
  have Y5 := Lib.hid q5
  have B5 := Lib.hid (bel_trans B4.out K5.out)
  have D5 := Lib.hid (D4.out.bel K5.out)
  have X5 := Lib.hid (X4.out.bel K5.out)
  clear q5 k5 K5
  generalize w4.heap.size = yb at Y5 ⊢
  go_upto_region 6 with fail
  go_upto_region 7 with (first
    | (refine list_loadD (by rfl) (.tmp 10) rfl w.heap.size rfl zs D5.out ?_)
    | (go_at_call 12; refine (HRT.out _ B5.out).mono ?_; rintro e w6 ⟨rfl, hb⟩; have B6 := Lib.hid (bel_trans B5.out hb); have X6 := Lib.hid (X5.out.bel hb); have Y6 := Lib.hid (Y5.out.bel hb); clear hb)
    | (refine list_storeApi rfl (.tmp 23) (.tmp 67) rfl w6.heap.size rfl ts tn tc te rfl hlt.out 27 (List.replicate 32 0) 0 0 0 (SBlk.new w6 _) ?_))
  intro w7 q7 k7
  have K7 := Lib.hid ((bel_alloc1 w6 _).trans (k7.below (Nat.le_refl _)))
  have Z7 := Lib.hid q7
  have B7 := Lib.hid (bel_trans B6.out K7.out)
  have X7 := Lib.hid (X6.out.bel K7.out)
  have Y7 := Lib.hid (Y6.out.bel K7.out)
  clear q7 k7 K7
  generalize w6.heap.size = zb at Z7 ⊢
  go_upto_region 7 with fail
  refine wp_region_any (by kernel_rfl) ?_
  change wpAny _ _ _ _ _ _ _ (World.drew _)
  generalize hWD : World.drew _ = W
  have B8 := Lib.hid (show Below w.heap.size w W by rw [← hWD]; exact B7.out.drew)
  have X8 := Lib.hid (show SBlk W (w.heap.size + 1) 27 xs xn xc xe by rw [← hWD]; exact X7.out)
  have Y8 := Lib.hid (show SBlk W yb 27 ts tn tc te by rw [← hWD]; exact Y7.out)
  have Z8 := Lib.hid (show SBlk W zb 27 ts tn tc te by rw [← hWD]; exact Z7.out)
  clear hWD
  have hCD : ∀ u, Ext W u → Ext W u := fun u hu => hu
  refine region_U (D := Ext W) (Ext W) [27] (Ext.refl W) ?_
  refine anyU_takeD (i := 0) (v := .int .i64 key) 69 rfl rfl (by kernel_rfl) (by kernel_rfl) (by kernel_rfl) (fun _ _ _ h => h) (by kernel_rfl) (Ext.stable _) hCD (yieldsU_val rfl (fun u0 hu => by go_simp)) ?_
  refine anyU_takeD (i := 1) (v := .agg (stv xs xn xc xe).toArray) 70 rfl rfl (by kernel_rfl) (by kernel_rfl) (by kernel_rfl) (fun _ _ _ h => h) (by kernel_rfl) (Ext.stable _) hCD (yieldsU_of_C (yields_loadApi (by rfl) (.tmp 15) rfl (w.heap.size + 1) 0 rfl xs xn xc xe hlx.out (fun u0 hu => (X8.out.bel hu).1.range))) ?_
  refine anyU_takeD (i := 2) (v := .bool vb) 71 rfl rfl (by kernel_rfl) (by kernel_rfl) (by kernel_rfl) (fun _ _ _ h => h) (by kernel_rfl) (Ext.stable _) hCD (yieldsU_call rfl 13 _ _ rfl #[.int .i64 key, .agg (stv xs xn xc xe).toArray] (by simp [Act.eval, Act.put]) (fun u => by go_simp) (fun u0 hu => scheck_any key xs xn xc xe vb _ hlx hrx (Lib.hid ((hk.out.below B8.out).below hu)) HVX)) ?_
  refine anyU_takeD (i := 3) (v := .int .i64 key) 72 rfl rfl (by kernel_rfl) (by kernel_rfl) (by kernel_rfl) (fun _ _ _ h => h) (by kernel_rfl) (Ext.stable _) hCD (yieldsU_val rfl (fun u0 hu => by go_simp)) ?_
  refine anyU_takeD (i := 4) (v := .agg (stv xs xn xc xe).toArray) 73 rfl rfl (by kernel_rfl) (by kernel_rfl) (by kernel_rfl) (fun _ _ _ h => h) (by kernel_rfl) (Ext.stable _) hCD (yieldsU_of_C (yields_loadApi (by rfl) (.tmp 15) rfl (w.heap.size + 1) 0 rfl xs xn xc xe hlx.out (fun u0 hu => (X8.out.bel hu).1.range))) ?_
  refine anyU_takeD (i := 5) (v := .bool vb) 74 rfl rfl (by kernel_rfl) (by kernel_rfl) (by kernel_rfl) (fun _ _ _ h => h) (by kernel_rfl) (Ext.stable _) hCD (yieldsU_call rfl 14 _ _ rfl #[.int .i64 key, .agg (stv xs xn xc xe).toArray] (by simp [Act.eval, Act.put]) (fun u => by go_simp) (fun u0 hu => rscheck_any key xs xn xc xe vb _ hlx hrx HVX)) ?_
  refine anyU_takeD (i := 6) (v := .bool true) 75 rfl rfl (by kernel_rfl) (by kernel_rfl) (by kernel_rfl) (fun _ _ _ h => h) (by kernel_rfl) (Ext.stable _) hCD (yieldsU_val rfl (fun u0 hu => by cases vb <;> go_simp)) ?_
  simp only [Act.put, List.setIfInBounds_toArray, List.set_cons_succ, List.set_cons_zero]
  refine anyU_takeD (i := 7) (v := .bool true) 76 rfl rfl (by kernel_rfl) (by kernel_rfl) (by kernel_rfl) (fun _ _ _ h => h) (by kernel_rfl) (Ext.stable _) hCD (yieldsU_val rfl (fun u0 hu => by go_simp)) ?_
  refine anyU_takeD (i := 8) (v := .int .i64 ca) 77 rfl rfl (by kernel_rfl) (by kernel_rfl) (by kernel_rfl) (fun _ _ _ h => h) (by kernel_rfl) (Ext.stable _) hCD (yieldsU_val rfl (fun u0 hu => by go_simp)) ?_
  refine anyU_takeD (i := 9) (v := .int .i64 ca) 78 rfl rfl (by kernel_rfl) (by kernel_rfl) (by kernel_rfl) (fun _ _ _ h => h) (by kernel_rfl) (Ext.stable _) hCD (yieldsU_val rfl (fun u0 hu => by go_simp)) ?_
  refine anyU_takeD (i := 10) (v := .bool true) 79 rfl rfl (by kernel_rfl) (by kernel_rfl) (by kernel_rfl) (fun _ _ _ h => h) (by kernel_rfl) (Ext.stable _) hCD (yieldsU_val rfl (fun u0 hu => by go_simp)) ?_
  refine anyU_takeD (i := 11) (v := .bool true) 80 rfl rfl (by kernel_rfl) (by kernel_rfl) (by kernel_rfl) (fun _ _ _ h => h) (by kernel_rfl) (Ext.stable _) hCD (yieldsU_val rfl (fun u0 hu => by go_simp)) ?_
  refine anyU_takeD (i := 12) (v := .bool true) 81 rfl rfl (by kernel_rfl) (by kernel_rfl) (by kernel_rfl) (fun _ _ _ h => h) (by kernel_rfl) (Ext.stable _) hCD (yieldsU_val rfl (fun u0 hu => by go_simp)) ?_
  simp only [Act.put, List.setIfInBounds_toArray, List.set_cons_succ, List.set_cons_zero]
  refine anyU_takeD (i := 13) (v := .int .i64 ea) 82 rfl rfl (by kernel_rfl) (by kernel_rfl) (by kernel_rfl) (fun _ _ _ h => h) (by kernel_rfl) (Ext.stable _) hCD (yieldsU_val rfl (fun u0 hu => by go_simp)) ?_
  refine anyU_takeD (i := 14) (v := .int .i64 ea) 83 rfl rfl (by kernel_rfl) (by kernel_rfl) (by kernel_rfl) (fun _ _ _ h => h) (by kernel_rfl) (Ext.stable _) hCD (yieldsU_val rfl (fun u0 hu => by go_simp)) ?_
  refine anyU_takeD (i := 15) (v := .bool true) 84 rfl rfl (by kernel_rfl) (by kernel_rfl) (by kernel_rfl) (fun _ _ _ h => h) (by kernel_rfl) (Ext.stable _) hCD (yieldsU_val rfl (fun u0 hu => by go_simp)) ?_
  refine anyU_takeD (i := 16) (v := .bool true) 85 rfl rfl (by kernel_rfl) (by kernel_rfl) (by kernel_rfl) (fun _ _ _ h => h) (by kernel_rfl) (Ext.stable _) hCD (yieldsU_val rfl (fun u0 hu => by go_simp)) ?_
  refine anyU_takeD (i := 17) (v := .bool true) 86 rfl rfl (by kernel_rfl) (by kernel_rfl) (by kernel_rfl) (fun _ _ _ h => h) (by kernel_rfl) (Ext.stable _) hCD (yieldsU_val rfl (fun u0 hu => by go_simp)) ?_
  simp only [Act.put, List.setIfInBounds_toArray, List.set_cons_succ, List.set_cons_zero]
  refine anyU_takeD (i := 18) (v := .agg (stv ts tn tc te).toArray) 87 rfl rfl (by kernel_rfl) (by kernel_rfl) (by kernel_rfl) (fun _ _ _ h => h) (by kernel_rfl) (Ext.stable _) hCD (yieldsU_of_C (yields_loadApi (by rfl) (.tmp 21) rfl yb 0 rfl ts tn tc te hlt.out (fun u0 hu => (Y8.out.bel hu).1.range))) ?_
  refine anyU_takeD (i := 19) (v := .agg (stv ts tn tc te).toArray) 88 rfl rfl (by kernel_rfl) (by kernel_rfl) (by kernel_rfl) (fun _ _ _ h => h) (by kernel_rfl) (Ext.stable _) hCD (yieldsU_of_C (yields_loadApi (by rfl) (.tmp 23) rfl zb 0 rfl ts tn tc te hlt.out (fun u0 hu => (Z8.out.bel hu).1.range))) ?_
  refine anyU_takeD (i := 20) (v := .bool true) 89 rfl rfl (by kernel_rfl) (by kernel_rfl) (by kernel_rfl) (fun _ _ _ h => h) (by kernel_rfl) (Ext.stable _) hCD (yieldsU_val rfl (fun u0 hu => by go_simp)) ?_
  refine anyU_takeD (i := 21) (v := .bool true) 90 rfl rfl (by kernel_rfl) (by kernel_rfl) (by kernel_rfl) (fun _ _ _ h => h) (by kernel_rfl) (Ext.stable _) hCD (yieldsU_val rfl (fun u0 hu => by go_simp)) ?_
  refine anyU_takeD (i := 22) (v := .bool true) 91 rfl rfl (by kernel_rfl) (by kernel_rfl) (by kernel_rfl) (fun _ _ _ h => h) (by kernel_rfl) (Ext.stable _) hCD (yieldsU_val rfl (fun u0 hu => by go_simp)) ?_
  simp only [Act.put, List.setIfInBounds_toArray, List.set_cons_succ, List.set_cons_zero]
  refine anyU_takeD (i := 23) (v := .int .i64 et) 92 rfl rfl (by kernel_rfl) (by kernel_rfl) (by kernel_rfl) (fun _ _ _ h => h) (by kernel_rfl) (Ext.stable _) hCD (yieldsU_val rfl (fun u0 hu => by go_simp)) ?_
  refine anyU_takeD (i := 24) (v := .int .i64 et) 93 rfl rfl (by kernel_rfl) (by kernel_rfl) (by kernel_rfl) (fun _ _ _ h => h) (by kernel_rfl) (Ext.stable _) hCD (yieldsU_val rfl (fun u0 hu => by go_simp)) ?_
  refine anyU_takeD (i := 25) (v := .bool true) 94 rfl rfl (by kernel_rfl) (by kernel_rfl) (by kernel_rfl) (fun _ _ _ h => h) (by kernel_rfl) (Ext.stable _) hCD (yieldsU_val rfl (fun u0 hu => by go_simp)) ?_
  refine anyU_takeD (i := 26) (v := .bool true) 95 rfl rfl (by kernel_rfl) (by kernel_rfl) (by kernel_rfl) (fun _ _ _ h => h) (by kernel_rfl) (Ext.stable _) hCD (yieldsU_val rfl (fun u0 hu => by go_simp)) ?_
  simp only [Act.put, List.setIfInBounds_toArray, List.set_cons_succ, List.set_cons_zero]
  refine anyU_tail 27 [] rfl rfl (by decide) (by kernel_rfl) ?_
  intro u9 hu9
  simp only [Act.put, List.filterMap_cons, List.filterMap_nil, List.getElem?_cons_succ, List.getElem?_cons_zero]
  have B9 := Lib.hid (bel_trans B8.out hu9)
  clear hu9
  go_wp2_with fail
  go_ret
  exact ⟨rfl, B9.out⟩
theorem stampsSpec_walk (key r : Int) (zs : List Int) (n u v s : Int) (xs : List Int) (xn xc xe : Int) (w : World) (hl : Hid (zs.length = 32)) (hr : Hid (∀ z ∈ zs, 0 ≤ z ∧ z ≤ 255)) (hlx : Hid (xs.length = 32)) (hrx : Hid (∀ z ∈ xs, 0 ≤ z ∧ z ≤ 255)) (hk : Hid (KeysAt w)) :
    Calls Tryz.prog 3 #[.int .i64 key, .int .i64 r, .agg (bv zs).toArray, .int .i64 n, .int .i64 u, .int .i64 v, .int .i64 s, .agg (stv xs xn xc xe).toArray] w fun q w' => q = .returned (.bool true) ∧ Below w.heap.size w w' := by
  obtain ⟨vb, hvx⟩ := isChk key xs xn xc xe
  have HVX := Lib.hid hvx
  have h32 := Lib.hid (show (List.replicate 32 (0 : Int)).length = 32 from rfl)
  cases hn : valB n with
  | false =>
    have HN := Lib.hid hn
    exact stampsSpec_core key r zs n u v s xs xn xc xe vb 0 370 _ 0 0 0 370 w hl hr hlx hrx hk h32 HVX (Lib.hid fun q hq => sask_no key r zs n u v q hl HN) (Lib.hid fun q hq => rsask_no key r zs n u v q hl HN) (Lib.hid fun q hq => stake_no key r zs n u v s q hl HN) (Lib.hid fun q hq => rstake_no key r zs n u v s q hl HN)
  | true =>
    have HN := Lib.hid hn
    have HOK := Lib.hid (st_ok hl.out hr.out hn)
    have HTX := Lib.hid (st_tx hl.out HOK.out)
    cases he : (elB key && elB r) with
    | false =>
      have HE := Lib.hid he
      exact stampsSpec_core key r zs n u v s xs xn xc xe vb 0 90 _ 0 0 0 90 w hl hr hlx hrx hk h32 HVX (Lib.hid fun q hq => sask_el key r zs n u v q hl HN HOK HE) (Lib.hid fun q hq => rsask_el key r zs n u v q hl HN HOK HE) (Lib.hid fun q hq => stake_el key r zs n u v s q hl HN HOK HE) (Lib.hid fun q hq => rstake_el key r zs n u v s q hl HN HOK HE)
    | true =>
      have HEK := Lib.hid (Bool.and_eq_true_iff.1 he).1
      have HER := Lib.hid (Bool.and_eq_true_iff.1 he).2
      obtain ⟨pt, hp⟩ := isBp key r u v
      obtain ⟨h, hh⟩ := isCh pt key (encL [.text zs, .int n])
      have HBP := Lib.hid hp
      have HCH := Lib.hid hh
      have HC2 := Lib.hid (show (h + modQ v) % 1073741789 = modQ (h + v) by unfold modQ; omega)
      have HS2 := Lib.hid (show (modQ s + modQ u) % 1073741789 = modQ (s + u) by unfold modQ; omega)
      obtain ⟨vv, hvv⟩ := isVer key (encL [.text zs, .int n]) h (modQ (s + u))
      have HVV := Lib.hid hvv
      cases vv with
      | false => exact stampsSpec_core key r zs n u v s xs xn xc xe vb _ 0 _ 0 0 0 150 w hl hr hlx hrx hk h32 HVX (Lib.hid fun q hq => sask_yes key r zs n u v q hl HN HOK HTX HEK HER (Lib.hid (hk.out.below hq)) pt h _ HBP HCH (Lib.hid rfl)) (Lib.hid fun q hq => rsask_yes key r zs n u v q hl HN HOK HTX HEK HER pt h HBP HCH _ _ (Lib.hid rfl) HC2) (Lib.hid fun q hq => stake_bad key r zs n u v s q hl HN HOK HTX HEK HER (Lib.hid (hk.out.below hq)) pt h _ HBP HCH (Lib.hid rfl) HVV) (Lib.hid fun q hq => rstake_bad key r zs n u v s q hl HN HOK HTX HEK HER pt h HBP HCH _ _ _ (Lib.hid rfl) (Lib.hid rfl) HS2 HVV)
      | true => exact stampsSpec_core key r zs n u v s xs xn xc xe vb _ 0 zs n h (modQ (s + u)) 0 w hl hr hlx hrx hk hl HVX (Lib.hid fun q hq => sask_yes key r zs n u v q hl HN HOK HTX HEK HER (Lib.hid (hk.out.below hq)) pt h _ HBP HCH (Lib.hid rfl)) (Lib.hid fun q hq => rsask_yes key r zs n u v q hl HN HOK HTX HEK HER pt h HBP HCH _ _ (Lib.hid rfl) HC2) (Lib.hid fun q hq => stake_yes key r zs n u v s q hl HN HOK HTX HEK HER (Lib.hid (hk.out.below hq)) pt h _ HBP HCH (Lib.hid rfl) HVV) (Lib.hid fun q hq => rstake_yes key r zs n u v s q hl HN HOK HTX HEK HER pt h HBP HCH _ _ _ (Lib.hid rfl) (Lib.hid rfl) HS2 HVV)

namespace stampsSpec
theorem readable : ∀ t ∈ Tryz.f3.params.toList, Tryz.prog.readableRec t = true ∧ t < Tryz.prog.types.size := by
  rw [Tryz.params3]
  intro t ht
  simp only [List.mem_cons, List.not_mem_nil, or_false] at ht
  rcases ht with rfl | rfl | rfl | rfl | rfl | rfl | rfl | rfl
  all_goals exact ⟨by kernel_rfl, by decide +kernel⟩

set_option maxRecDepth 100000 in
theorem lifted (os : Os) (started : os.Started) (H : Type) (enc : TypeId × Value → H) :
    ReturnsInHanded {} Tryz.checked os 3 .any (fun w args => (Rows.stampsSpecSpec.pre enc Tryz.prog Tryz.f3 [] false w args ∧ laidMetH Tryz.prog laidK w) ∧ sizedMet enc Tryz.prog Tryz.f3 (OpenSpec.ofChange Rows.stampsSpecSpec) false w args)
      (Rows.stampsSpecSpec.post enc Tryz.prog Tryz.f3 false true false false) := by
  refine returnsInHanded_of_change_and (C := Tryz.checked) (X := fun w _ => laidMetH Tryz.prog laidK w) (fun _ _ _ hh h => h.of_heap hh) own_knob started (by kernel_rfl) Tryz.func3
    (ChangeSpec.witness_shaped (enc := enc) (C := Tryz.checked) (os := os) (X := fun w _ => laidMetH Tryz.prog laidK w) false (World.doorLaid Tryz.prog 400 os) #[.int .i64 0, .int .i64 0, .agg (bv (List.replicate 32 0)).toArray, .int .i64 0, .int .i64 0, .int .i64 0, .int .i64 0, .agg (stv (List.replicate 32 0) 0 0 0).toArray] 8 rfl (World.shaped_of_RefB (by kernel_rfl) (by kernel_rfl)) (by kernel_rfl) (by kernel_rfl) (by kernel_rfl) (door_met os _)) ?_
  intro W base args ds gs before hval0 hW _ _ hL _
  have hval : ∀ (j : Nat) t v, Tryz.f3.params[j]? = some t → args[j]? = some v → Value.okWide Tryz.prog W .any base t v := hval0
  have hW' := hW
  obtain ⟨p, q, hA0, hV, rfl, hfz, hnd⟩ := hW
  have hA : DataW.TrodAll enc Tryz.prog W 0 (fun _ => true) true Tryz.f3.params.toList args.toList ds p := hA0
  rw [Tryz.params3] at hA hval
  obtain ⟨v0, vs0, d0, ds0, p0, q0, hargs, rfl, rfl, h0, r0⟩ := trodAll_cons hA
  obtain ⟨v1, vs1, d1, ds1, p1, q1, rfl, rfl, rfl, h1, r1⟩ := trodAll_cons r0
  obtain ⟨v2, vs2, d2, ds2, p2, q2, rfl, rfl, rfl, h2, r2⟩ := trodAll_cons r1
  obtain ⟨v3, vs3, d3, ds3, p3, q3, rfl, rfl, rfl, h3, r3⟩ := trodAll_cons r2
  obtain ⟨v4, vs4, d4, ds4, p4, q4, rfl, rfl, rfl, h4, r4⟩ := trodAll_cons r3
  obtain ⟨v5, vs5, d5, ds5, p5, q5, rfl, rfl, rfl, h5, r5⟩ := trodAll_cons r4
  obtain ⟨v6, vs6, d6, ds6, p6, q6, rfl, rfl, rfl, h6, r6⟩ := trodAll_cons r5
  obtain ⟨v7, vs7, d7, ds7, p7, q7, rfl, rfl, rfl, h7, r7⟩ := trodAll_cons r6
  obtain ⟨rfl, rfl, rfl⟩ := trodAll_nil r7
  obtain rfl : args = #[v0, v1, v2, v3, v4, v5, v6, v7] := by cases args; simp_all
  obtain ⟨rfl, rfl⟩ := trodVars_none hV
  obtain ⟨a0, rfl, rfl, rfl, w0⟩ := open_int Tryz.underlying3 (hval 0 3 v0 rfl rfl) h0
  obtain ⟨a1, rfl, rfl, rfl, w1⟩ := open_int Tryz.underlying3 (hval 1 3 v1 rfl rfl) h1
  obtain ⟨z2, rfl, w2, x2⟩ := open_dig Tryz.underlying23 Tryz.underlying5 (by kernel_rfl) (by kernel_rfl) (hval 2 23 v2 rfl rfl) h2
  obtain ⟨a3, rfl, rfl, rfl, w3⟩ := open_int Tryz.underlying3 (hval 3 3 v3 rfl rfl) h3
  obtain ⟨a4, rfl, rfl, rfl, w4⟩ := open_int Tryz.underlying3 (hval 4 3 v4 rfl rfl) h4
  obtain ⟨a5, rfl, rfl, rfl, w5⟩ := open_int Tryz.underlying3 (hval 5 3 v5 rfl rfl) h5
  obtain ⟨a6, rfl, rfl, rfl, w6⟩ := open_int Tryz.underlying3 (hval 6 3 v6 rfl rfl) h6
  obtain ⟨z7, n7, c7, s7, rfl, w7, x7⟩ := open_stamp (hval 7 27 v7 rfl rfl) h7
  have hK := of_laid hL
  clear hA0 hval0
  refine (stampsSpec_walk a0 a1 z2 a3 a4 a5 a6 z7 n7 c7 s7 W (Lib.hid w2) (Lib.hid x2) (Lib.hid w7) (Lib.hid x7) (Lib.hid hK)).mono fun e W' ⟨he, hb⟩ => ?_
  subst he
  exact ⟨_, rfl, law_post laid_out readable rfl rfl Tryz.underlying4 hW' rfl rfl rfl hb⟩

theorem over : Rows.stampsSpecRow.holds Tryz.pinned (OpenSpec.ofChange Rows.stampsSpecSpec) :=
  OpenClaim.holds_of_wide 3 Tryz.f3 rfl rfl rfl rfl rfl rfl rfl ⟨rfl, rfl, rfl, rfl, rfl⟩ rfl rfl rfl rfl rfl (by kernel_rfl) Tryz.func3 (by kernel_rfl)
    (of_decide_eq_true (by kernel_rfl)) (by unfold Func.isWrapper; first | (rw [if_pos (by decide +kernel)]; kernel_rfl) | (rw [if_neg (by decide +kernel)]; exact ⟨rfl, rfl⟩))
    (fun os started H enc _ => lifted os started H enc)

/-- the statement: the tied card -/
theorem proved : Rows.StampsSpecCardSaid :=
  Claim7.holds_tied_plain_at .later [] [.data] true (true, "08aa77cb6b5e7032e714fb6e8234f1d1e81e8e126b602c27ba0bf5d0ec3bd074") true
    over (fun _ h => by cases h) (by kernel_rfl) (fun _ h => by cases h) stampsSpec_row_tie rfl ⟨rfl, rfl⟩ (by kernel_rfl) rfl
    (fun f fn hf hfn => by
      obtain rfl : f = 3 := Option.some.inj ((show Tryz.prog.funcNamed "franking/frankinglaw37.StampsSpec" = some 3 by kernel_rfl).symm.trans hf) |>.symm
      obtain rfl : fn = Tryz.f3 := (Option.some.inj (Tryz.func3.symm.trans hfn)).symm
      exact ⟨by kernel_rfl, fun j t ht => by
        rw [Tryz.params3] at ht
        have hm : t ∈ [3, 3, 23, 3, 3, 3, 3, 27] := by simpa using Array.mem_of_getElem? ht
        have hall : ([3, 3, 23, 3, 3, 3, 3, 27].all fun u => !Tryz.prog.wantsStandIn u) = true := by kernel_rfl
        exact (show Tryz.prog.wantsStandIn t = false by simpa using List.all_eq_true.1 hall t hm)⟩)
    (by kernel_rfl)
end stampsSpec
end Go.Proofs.YtjdkdhpippapmaaGreatDoor
