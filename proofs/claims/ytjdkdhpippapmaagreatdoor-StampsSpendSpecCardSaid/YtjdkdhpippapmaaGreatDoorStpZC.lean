/- Package stamps: Take. Package stamps: Ask. The reference's text of a stamp. The reference's Check, Ask and Take of stamps. -/
import Derived.Test.YtjdkdhpippapmaaGreatDoorStpZB
import Derived.Test.YtjdkdhpippapmaaGreatDoorBldC
import Derived.Test.YtjdkdhpippapmaaGreatDoorRefZC
import Derived.Test.YtjdkdhpippapmaaGreatDoorRef15C
namespace Go.Proofs.YtjdkdhpippapmaaGreatDoor
open Go.RowKit
set_option linter.unusedVariables false
set_option linter.unusedSimpArgs false

theorem SBlk.other {w : World} {b b' : Nat} {t : TypeId} {zs : List Int} {n c s : Int} (h : SBlk w b t zs n c s) (o : Nat) (x : Value) (hne : b ≠ b') : SBlk (w.setCell ⟨b', o, none⟩ x) b t zs n c s := ⟨h.1.other o x hne, h.2⟩
theorem IBlk.setSig {w : World} {b : Nat} {zs : List Int} {n c s key r u v : Int} (q : IBlk w b zs n c s key r u v) (h S : Int) : IBlk ((w.setCell ⟨b, 33, none⟩ (.int .i64 h)).setCell ⟨b, 34, none⟩ (.int .i64 S)) b zs n h S key r u v := by
  refine ⟨?_, q.2⟩
  have e : (((isv zs n c s key r u v).toArray).setIfInBounds 33 (.int .i64 h)).setIfInBounds 34 (.int .i64 S) = (isv zs n h S key r u v).toArray := by
    have hz := q.2
    clear q
    obtain ⟨z0, z1, z2, z3, z4, z5, z6, z7, z8, z9, z10, z11, z12, z13, z14, z15, z16, z17, z18, z19, z20, z21, z22, z23, z24, z25, z26, z27, z28, z29, z30, z31, hzs⟩ := list32 zs hz
    subst zs
    rfl
  rw [← e]
  exact (q.1.set 33 _).set 34 _
theorem IBlk.sigs {w : World} {b : Nat} {zs : List Int} {n c s key r u v : Int} (q : IBlk w b zs n c s key r u v) : w.cell? ⟨b, 33, none⟩ = some (.int .i64 c) ∧ w.cell? ⟨b, 34, none⟩ = some (.int .i64 s) ∧ w.frozen? ⟨b, 33, none⟩ = false ∧ w.frozen? ⟨b, 34, none⟩ = false := by
  have hz := q.2
  refine ⟨?_, ?_, q.1.frozen 33, q.1.frozen 34⟩ <;> · rw [q.1.cell, List.getElem?_toArray, isv, List.getElem?_append_left (by simp [stv_len hz]), stv, List.getElem?_append_right (by simp [bv, hz])]; simp [bv, hz]
set_option maxRecDepth 100000 in
set_option maxHeartbeats 4000000 in
theorem stake_no (key r : Int) (zs : List Int) (n u v t : Int) (w : World) (hl : Hid (zs.length = 32)) (hn : Hid (valB n = false)) :
    Calls Tryz.prog 11 #[.int .i64 key, .int .i64 r, .agg (bv zs).toArray, .int .i64 n, .int .i64 u, .int .i64 v, .int .i64 t] w fun e w' => e = .returned (.tuple #[.agg (stv (List.replicate 32 0) 0 0 0).toArray, .int .i64 370]) ∧ Below w.heap.size w w' := by
  have DB := Lib.hid ((Dg.box w hl.out).alloc (.cells #[.int .u8 0, .int .u8 0, .int .u8 0, .int .u8 0, .int .u8 0, .int .u8 0, .int .u8 0, .int .u8 0, .int .u8 0, .int .u8 0, .int .u8 0, .int .u8 0, .int .u8 0, .int .u8 0, .int .u8 0, .int .u8 0, .int .u8 0, .int .u8 0, .int .u8 0, .int .u8 0, .int .u8 0, .int .u8 0, .int .u8 0, .int .u8 0, .int .u8 0, .int .u8 0, .int .u8 0, .int .u8 0, .int .u8 0, .int .u8 0, .int .u8 0, .int .u8 0, .int .i64 0, .int .i64 0, .int .i64 0] 27))
  have RB := Lib.hid (show SBlk ((w.alloc (.cells (bv zs).toArray 23)).alloc (.cells #[.int .u8 0, .int .u8 0, .int .u8 0, .int .u8 0, .int .u8 0, .int .u8 0, .int .u8 0, .int .u8 0, .int .u8 0, .int .u8 0, .int .u8 0, .int .u8 0, .int .u8 0, .int .u8 0, .int .u8 0, .int .u8 0, .int .u8 0, .int .u8 0, .int .u8 0, .int .u8 0, .int .u8 0, .int .u8 0, .int .u8 0, .int .u8 0, .int .u8 0, .int .u8 0, .int .u8 0, .int .u8 0, .int .u8 0, .int .u8 0, .int .u8 0, .int .u8 0, .int .i64 0, .int .i64 0, .int .i64 0] 27)) (w.heap.size + 1) 27 (List.replicate 32 0) 0 0 0 by have := SBlk.new (w.alloc (.cells (bv zs).toArray 23)) 27; simpa using this)
  have BW := Lib.hid (show Below w.heap.size w ((w.alloc (.cells (bv zs).toArray 23)).alloc (.cells #[.int .u8 0, .int .u8 0, .int .u8 0, .int .u8 0, .int .u8 0, .int .u8 0, .int .u8 0, .int .u8 0, .int .u8 0, .int .u8 0, .int .u8 0, .int .u8 0, .int .u8 0, .int .u8 0, .int .u8 0, .int .u8 0, .int .u8 0, .int .u8 0, .int .u8 0, .int .u8 0, .int .u8 0, .int .u8 0, .int .u8 0, .int .u8 0, .int .u8 0, .int .u8 0, .int .u8 0, .int .u8 0, .int .u8 0, .int .u8 0, .int .u8 0, .int .u8 0, .int .i64 0, .int .i64 0, .int .i64 0] 27)) from (bel_alloc1 w _).alloc (by simp) _)
  go_enter Tryz.func11, Tryz.ntmps11
  go_upto_region 2 with (first
    | (refine list_loadD (by rfl) (.tmp 9) rfl w.heap.size rfl zs DB.out ?_)
    | (go_at_call 29; refine (snew_is key r zs n u v _ hl).mono ?_; rintro e w1 ⟨rfl, hb⟩; have B1 := Lib.hid (bel_trans BW.out hb); have R1 := Lib.hid (RB.out.bel hb); clear hb DB)
    | (refine list_storeIss rfl (.tmp 16) (.tmp 24) rfl w1.heap.size rfl zs n 0 0 key r u v rfl hl.out (IBlk.new w1) ?_))
  intro w2 q2 k2
  have K2 := Lib.hid (show Below w1.heap.size w1 w2 from (bel_alloc1 w1 _).trans (k2.below (Nat.le_refl _)))
  have Q2 := Lib.hid q2
  have R2 := Lib.hid (R1.out.bel K2.out)
  have B2 := Lib.hid (bel_trans B1.out K2.out)
  have lt1 := R1.out.lt
  clear q2 k2 K2 B1 R1 RB BW
  obtain ⟨ib, hib⟩ : ∃ b, w1.heap.size = b := ⟨_, rfl⟩
  rw [hib] at Q2 lt1 ⊢
  clear hib
  go_wp2_with (first
    | (refine list_loadOwn (by rfl) (.tmp 25) rfl ib 0 rfl zs n 0 0 hl.out Q2.out.stamp ?_)
    | (go_at_call 30; refine (shas_any zs n 0 0 w2 hl).mono ?_; rintro e w3 ⟨rfl, hb⟩; rw [hn.out]; have Q3 := Lib.hid (Q2.out.bel hb); have R3 := Lib.hid (R2.out.bel hb); have B3 := Lib.hid (bel_trans B2.out hb); clear hb)
    | (refine list_storeApi rfl (.tmp 14) (.tmp 29) rfl (w.heap.size + 1) rfl (List.replicate 32 0) 0 0 0 rfl rfl 27 _ _ _ _ R3.out ?_))
  intro w4 q4 k4
  have Q4 := Lib.hid q4
  have B4 := Lib.hid (B3.out.trans (k4.below (by omega)))
  clear q4 k4
  go_wp2_with fail
  refine bodyPost_ret (v := .tuple #[.agg (stv (List.replicate 32 0) 0 0 0).toArray, .int .i64 370]) (results_cell_tmp (a := ⟨w.heap.size + 1, 0, none⟩) Tryz.results11 _ rfl (load_st Q4.out)) rfl ⟨rfl, B4.out⟩
set_option maxRecDepth 100000 in
set_option maxHeartbeats 4000000 in
theorem stake_el (key r : Int) (zs : List Int) (n u v t : Int) (w : World) (hl : Hid (zs.length = 32)) (hn : Hid (valB n = true)) (hok : Hid (∀ a ∈ [Atom.text zs, .int n], a.ok)) (h : Hid ((elB key && elB r) = false)) :
    Calls Tryz.prog 11 #[.int .i64 key, .int .i64 r, .agg (bv zs).toArray, .int .i64 n, .int .i64 u, .int .i64 v, .int .i64 t] w fun e w' => e = .returned (.tuple #[.agg (stv (List.replicate 32 0) 0 0 0).toArray, .int .i64 90]) ∧ Below w.heap.size w w' := by
  have DB := Lib.hid ((Dg.box w hl.out).alloc (.cells #[.int .u8 0, .int .u8 0, .int .u8 0, .int .u8 0, .int .u8 0, .int .u8 0, .int .u8 0, .int .u8 0, .int .u8 0, .int .u8 0, .int .u8 0, .int .u8 0, .int .u8 0, .int .u8 0, .int .u8 0, .int .u8 0, .int .u8 0, .int .u8 0, .int .u8 0, .int .u8 0, .int .u8 0, .int .u8 0, .int .u8 0, .int .u8 0, .int .u8 0, .int .u8 0, .int .u8 0, .int .u8 0, .int .u8 0, .int .u8 0, .int .u8 0, .int .u8 0, .int .i64 0, .int .i64 0, .int .i64 0] 27))
  have RB := Lib.hid (show SBlk ((w.alloc (.cells (bv zs).toArray 23)).alloc (.cells #[.int .u8 0, .int .u8 0, .int .u8 0, .int .u8 0, .int .u8 0, .int .u8 0, .int .u8 0, .int .u8 0, .int .u8 0, .int .u8 0, .int .u8 0, .int .u8 0, .int .u8 0, .int .u8 0, .int .u8 0, .int .u8 0, .int .u8 0, .int .u8 0, .int .u8 0, .int .u8 0, .int .u8 0, .int .u8 0, .int .u8 0, .int .u8 0, .int .u8 0, .int .u8 0, .int .u8 0, .int .u8 0, .int .u8 0, .int .u8 0, .int .u8 0, .int .u8 0, .int .i64 0, .int .i64 0, .int .i64 0] 27)) (w.heap.size + 1) 27 (List.replicate 32 0) 0 0 0 by have := SBlk.new (w.alloc (.cells (bv zs).toArray 23)) 27; simpa using this)
  have BW := Lib.hid (show Below w.heap.size w ((w.alloc (.cells (bv zs).toArray 23)).alloc (.cells #[.int .u8 0, .int .u8 0, .int .u8 0, .int .u8 0, .int .u8 0, .int .u8 0, .int .u8 0, .int .u8 0, .int .u8 0, .int .u8 0, .int .u8 0, .int .u8 0, .int .u8 0, .int .u8 0, .int .u8 0, .int .u8 0, .int .u8 0, .int .u8 0, .int .u8 0, .int .u8 0, .int .u8 0, .int .u8 0, .int .u8 0, .int .u8 0, .int .u8 0, .int .u8 0, .int .u8 0, .int .u8 0, .int .u8 0, .int .u8 0, .int .u8 0, .int .u8 0, .int .i64 0, .int .i64 0, .int .i64 0] 27)) from (bel_alloc1 w _).alloc (by simp) _)
  go_enter Tryz.func11, Tryz.ntmps11
  go_upto_region 2 with (first
    | (refine list_loadD (by rfl) (.tmp 9) rfl w.heap.size rfl zs DB.out ?_)
    | (go_at_call 29; refine (snew_is key r zs n u v _ hl).mono ?_; rintro e w1 ⟨rfl, hb⟩; have B1 := Lib.hid (bel_trans BW.out hb); have R1 := Lib.hid (RB.out.bel hb); clear hb DB)
    | (refine list_storeIss rfl (.tmp 16) (.tmp 24) rfl w1.heap.size rfl zs n 0 0 key r u v rfl hl.out (IBlk.new w1) ?_))
  intro w2 q2 k2
  have K2 := Lib.hid (show Below w1.heap.size w1 w2 from (bel_alloc1 w1 _).trans (k2.below (Nat.le_refl _)))
  have Q2 := Lib.hid q2
  have R2 := Lib.hid (R1.out.bel K2.out)
  have B2 := Lib.hid (bel_trans B1.out K2.out)
  have lt1 := R1.out.lt
  clear q2 k2 K2 B1 R1 RB BW
  obtain ⟨ib, hib⟩ : ∃ b, w1.heap.size = b := ⟨_, rfl⟩
  rw [hib] at Q2 lt1 ⊢
  clear hib
  go_upto_region 5 with (first
    | (refine list_loadOwn (by rfl) (.tmp 25) rfl ib 0 rfl zs n 0 0 hl.out Q2.out.stamp ?_)
    | (go_at_call 30; refine (shas_any zs n 0 0 w2 hl).mono ?_; rintro e w3 ⟨rfl, hb⟩; rw [hn.out]; have Q3 := Lib.hid (Q2.out.bel hb); have R3 := Lib.hid (R2.out.bel hb); have B3 := Lib.hid (bel_trans B2.out hb); clear hb)
    | (refine list_loadOwn (by rfl) (.tmp 30) rfl ib 0 rfl zs n 0 0 hl.out Q3.out.stamp ?_))
  refine wp_region_any (by kernel_rfl) ?_
  change wpAny _ _ _ _ _ _ _ (World.drew _)
  generalize hWD : World.drew _ = W
  replace Q3 := Lib.hid (show IBlk W ib zs n 0 0 key r u v by rw [← hWD]; exact Q3.out)
  replace R3 := Lib.hid (show SBlk W (w.heap.size + 1) 27 (List.replicate 32 0) 0 0 0 by rw [← hWD]; exact R3.out)
  replace B3 := Lib.hid (show Below w.heap.size w W by rw [← hWD]; exact B3.out.drew)
  clear hWD Q2 R2 B2
  have lt3 := Lib.hid (show ib < W.heap.size from Q3.out.lt)
  have hCD : ∀ z, Ext W z → Below w.heap.size W z ∧ ∃ c s, IBlk z ib zs n c s key r u v := fun z hz => ⟨Below.mono hz B3.out.size, 0, 0, Q3.out.bel hz⟩
  refine region_U (D := fun z => Below w.heap.size W z ∧ ∃ c s, IBlk z ib zs n c s key r u v) (Ext W) [19] (Ext.refl W) ?_
  refine anyU_takeD (i := 0) (v := .pointer (some ⟨ib, 35, none⟩)) 34 rfl rfl (by kernel_rfl) (by kernel_rfl) (by kernel_rfl) (fun _ _ _ h => h) (by kernel_rfl) (Ext.stable _) hCD (yieldsU_val rfl (fun u hu => by go_simp)) ?_
  refine anyU_takeD (i := 1) (v := .int .i64 key) 35 rfl rfl (by kernel_rfl) (by kernel_rfl) (by kernel_rfl) (fun _ _ _ h => h) (by kernel_rfl) (Ext.stable _) hCD (yieldsU_val rfl (fun u hu => by obtain ⟨_, cc, ss, hq⟩ := hu; obtain ⟨c0, c1, c2, c3⟩ := hq.num; go_simp)) ?_
  refine anyU_takeD (i := 2) (v := .pointer (some ⟨ib, 36, none⟩)) 36 rfl rfl (by kernel_rfl) (by kernel_rfl) (by kernel_rfl) (fun _ _ _ h => h) (by kernel_rfl) (Ext.stable _) hCD (yieldsU_val rfl (fun u hu => by go_simp)) ?_
  refine anyU_takeD (i := 3) (v := .int .i64 r) 37 rfl rfl (by kernel_rfl) (by kernel_rfl) (by kernel_rfl) (fun _ _ _ h => h) (by kernel_rfl) (Ext.stable _) hCD (yieldsU_val rfl (fun u hu => by obtain ⟨_, cc, ss, hq⟩ := hu; obtain ⟨c0, c1, c2, c3⟩ := hq.num; go_simp)) ?_
  refine anyU_takeD (i := 4) (v := .func (Fn.func 31) #[.agg (stv zs n 0 0).toArray] #[]) 38 rfl rfl (by kernel_rfl) (by kernel_rfl) (by kernel_rfl) (fun _ _ _ h => h) (by kernel_rfl) (Ext.stable _) hCD (yieldsU_val rfl (fun u hu => by go_simp)) ?_
  simp only [Act.put, List.setIfInBounds_toArray, List.set_cons_succ, List.set_cons_zero]
  refine anyU_takeD (i := 6) (v := .pointer (some ⟨ib, 37, none⟩)) 40 rfl rfl (by kernel_rfl) (by kernel_rfl) (by kernel_rfl) (fun _ _ _ h => h) (by kernel_rfl) (Ext.stable _) hCD (yieldsU_val rfl (fun u hu => by go_simp)) ?_
  refine anyU_takeD (i := 7) (v := .int .i64 u) 41 rfl rfl (by kernel_rfl) (by kernel_rfl) (by kernel_rfl) (fun _ _ _ h => h) (by kernel_rfl) (Ext.stable _) hCD (yieldsU_val rfl (fun u hu => by obtain ⟨_, cc, ss, hq⟩ := hu; obtain ⟨c0, c1, c2, c3⟩ := hq.num; go_simp)) ?_
  refine anyU_takeD (i := 8) (v := .pointer (some ⟨ib, 38, none⟩)) 42 rfl rfl (by kernel_rfl) (by kernel_rfl) (by kernel_rfl) (fun _ _ _ h => h) (by kernel_rfl) (Ext.stable _) hCD (yieldsU_val rfl (fun u hu => by go_simp)) ?_
  refine anyU_takeD (i := 9) (v := .int .i64 v) 43 rfl rfl (by kernel_rfl) (by kernel_rfl) (by kernel_rfl) (fun _ _ _ h => h) (by kernel_rfl) (Ext.stable _) hCD (yieldsU_val rfl (fun u hu => by obtain ⟨_, cc, ss, hq⟩ := hu; obtain ⟨c0, c1, c2, c3⟩ := hq.num; go_simp)) ?_
  refine anyU_takeD (i := 10) (v := .int .i64 t) 44 rfl rfl (by kernel_rfl) (by kernel_rfl) (by kernel_rfl) (fun _ _ _ h => h) (by kernel_rfl) (Ext.stable _) hCD (yieldsU_val rfl (fun u hu => by go_simp)) ?_
  simp only [Act.put, List.setIfInBounds_toArray, List.set_cons_succ, List.set_cons_zero]
  refine anyU_one 5 9 _ rfl rfl (by kernel_rfl) ?_
  intro u1 hu
  go_wp2_with (go_at_call 31; refine (stext_is zs n 0 0 u1 hl hok).mono ?_; rintro e u2 ⟨v2, rfl, o2, hb⟩; have O2 := Lib.hid o2; have B2 := Lib.hid (bel_trans hu hb); clear o2 hb)
  change ∃ C' : World → Prop, _ ∧ _ ∧ _ ∧ anyU _ _ _ _ _ _ 9 _ _ _
  obtain ⟨p, cp, hv2, hz2, _, _, _⟩ := own8_src O2.out
  subst v2
  have Z2 := Lib.hid hz2
  clear hz2 O2 hu
  refine anchorF (fun z => Ext W z ∧ SrcV z p (encL [.text zs, .int n]).length cp (encL [.text zs, .int n])) (fun z hz => hCD z hz.1) ((Ext.stable W).and (fun y z h k => h.below k)) ⟨B2.out, Z2.out⟩ ?_
  (try simp only [Act.put])
  refine anyU_one 11 8 _ rfl rfl (by kernel_rfl) ?_
  intro u3 hu3
  have Z3 := Lib.hid hu3.2
  have B4 := Lib.hid (bel_trans B3.out hu3.1)
  have E3 := Lib.hid hu3.1
  clear hu3
  go_wp2_with (go_at_call 35; refine (finish_no key r u v t p _ cp _ h).mono ?_; rintro e u4 ⟨rfl, hb⟩; have E4 := Lib.hid (bel_trans E3.out hb); clear hb)
  change ∃ C' : World → Prop, _ ∧ _ ∧ _ ∧ anyU _ _ _ _ _ _ 8 _ _ _
  clear B4 Z3 E3
  refine anchorF (fun z => Ext W z) hCD (Ext.stable W) E4.out ?_
  (try simp only [Act.put])
  refine anyU_takeD (i := 12) (v := .tuple #[.agg #[.int .i64 0, .int .i64 0], .int .i64 90]) 33 rfl rfl (by kernel_rfl) (by kernel_rfl) (by kernel_rfl) (fun _ _ _ h => h) (by kernel_rfl) (Ext.stable _) hCD (yieldsU_val rfl (fun u hu => by go_simp)) ?_
  refine anyU_takeD (i := 13) (v := .agg #[.int .i64 0, .int .i64 0]) 46 rfl rfl (by kernel_rfl) (by kernel_rfl) (by kernel_rfl) (fun _ _ _ h => h) (by kernel_rfl) (Ext.stable _) hCD (yieldsU_val rfl (fun u hu => by go_simp)) ?_
  refine anyU_takeD (i := 14) (v := .int .i64 90) 47 rfl rfl (by kernel_rfl) (by kernel_rfl) (by kernel_rfl) (fun _ _ _ h => h) (by kernel_rfl) (Ext.stable _) hCD (yieldsU_val rfl (fun u hu => by go_simp)) ?_
  simp only [Act.put, List.setIfInBounds_toArray, List.set_cons_succ, List.set_cons_zero]
  refine anyU_takeD (i := 15) (v := .pointer (some ⟨ib, 0, none⟩)) 48 rfl rfl (by kernel_rfl) (by kernel_rfl) (by kernel_rfl) (fun _ _ _ h => h) (by kernel_rfl) (Ext.stable _) hCD (yieldsU_val rfl (fun u hu => by go_simp)) ?_
  refine anyU_takeD (i := 16) (v := .pointer (some ⟨ib, 0, none⟩)) 49 rfl rfl (by kernel_rfl) (by kernel_rfl) (by kernel_rfl) (fun _ _ _ h => h) (by kernel_rfl) (Ext.stable _) hCD (yieldsU_val rfl (fun u hu => by go_simp)) ?_
  refine anyU_takeD (i := 17) (v := .pointer (some ⟨ib, 33, none⟩)) 50 rfl rfl (by kernel_rfl) (by kernel_rfl) (by kernel_rfl) (fun _ _ _ h => h) (by kernel_rfl) (Ext.stable _) hCD (yieldsU_val rfl (fun u hu => by go_simp)) ?_
  simp only [Act.put, List.setIfInBounds_toArray, List.set_cons_succ, List.set_cons_zero]
  refine anyU_one 18 1 _ rfl rfl (by kernel_rfl) ?_
  intro u5 hu5
  have B5 := Lib.hid (bel_trans B3.out hu5)
  have Q5 := Lib.hid (Q3.out.bel hu5)
  have R5 := Lib.hid (R3.out.bel hu5)
  have D5 := Lib.hid (show Below w.heap.size W u5 from Below.mono hu5 B3.out.size)
  have lt5 := B5.out.size
  clear hu5 E4
  obtain ⟨f0, f1, g0, g1⟩ := Q5.out.sigs
  have lt6 := Q5.out.lt
  go_wp2_with fail
  change ∃ C' : World → Prop, _ ∧ _ ∧ _ ∧ anyU _ _ _ _ _ _ 1 _ _ _
  have Q6 := Lib.hid (Q5.out.setSig 0 0)
  have R6 := Lib.hid (show SBlk ((u5.setCell ⟨ib, 33, none⟩ (.int .i64 0)).setCell ⟨ib, 34, none⟩ (.int .i64 0)) (w.heap.size + 1) 27 (List.replicate 32 0) 0 0 0 from (R5.out.other (b' := ib) 33 (.int .i64 0) (by omega)).other (b' := ib) 34 (.int .i64 0) (by omega))
  have D6 := Lib.hid ((D5.out.setCell (p := ⟨ib, 33, none⟩) (show w.heap.size ≤ ib by omega) (.int .i64 0)).setCell (p := ⟨ib, 34, none⟩) (show w.heap.size ≤ ib by omega) (.int .i64 0))
  clear B5 Q5 R5 D5 f0 f1 g0 g1 lt5 lt6
  generalize World.setCell (World.setCell u5 _ _) _ _ = W6 at *
  refine anchorF (fun z => Below w.heap.size W z ∧ IBlk z ib zs n 0 0 key r u v ∧ SBlk z (w.heap.size + 1) 27 (List.replicate 32 0) 0 0 0) (fun z hz => ⟨hz.1, _, _, hz.2.1⟩) (Stable.and (stable_below B3.out.size) (Stable.and (fun y z h k => IBlk.bel h k) (fun y z h k => SBlk.bel h k))) ⟨D6.out, Q6.out, R6.out⟩ ?_
  (try simp only [Act.put])
  refine anyU_tail 19 [] rfl rfl (by decide) (by kernel_rfl) ?_
  intro u7 hu7
  simp only [Act.put, List.filterMap_cons, List.filterMap_nil, List.getElem?_cons_succ, List.getElem?_cons_zero]
  have Q6 := Lib.hid hu7.2.1
  have R6 := Lib.hid hu7.2.2
  have B6 := Lib.hid (show Below w.heap.size w u7 from B3.out.trans hu7.1)
  clear hu7 B3 R3 Q3
  go_upto_region 6 with fail
  go_wp2_with (first
    | (refine list_storeApi rfl (.tmp 14) (.tmp 53) rfl (w.heap.size + 1) rfl (List.replicate 32 0) 0 0 0 rfl rfl 27 _ _ _ _ R6.out ?_))
  intro w7 q7 k7
  have Q7 := Lib.hid q7
  have B7 := Lib.hid (B6.out.trans (k7.below (by omega)))
  clear q7 k7
  go_wp2_with fail
  refine bodyPost_ret (v := .tuple #[.agg (stv (List.replicate 32 0) 0 0 0).toArray, .int .i64 90]) (results_cell_tmp (a := ⟨w.heap.size + 1, 0, none⟩) Tryz.results11 _ rfl (load_st Q7.out)) rfl ⟨rfl, B7.out⟩
set_option maxRecDepth 100000 in
set_option maxHeartbeats 4000000 in
theorem stake_bad (key r : Int) (zs : List Int) (n u v t : Int) (w : World) (hl : Hid (zs.length = 32)) (hn : Hid (valB n = true)) (hok : Hid (∀ a ∈ [Atom.text zs, .int n], a.ok)) (htx : Hid (txOk (encL [.text zs, .int n]))) (hkey : Hid (elB key = true)) (hr : Hid (elB r = true)) (hk : Hid (KeysAt w)) (pt h S : Int) (hp : Hid (IsBp key r u v pt)) (hh : Hid (IsCh pt key (encL [.text zs, .int n]) h)) (hS : Hid (modQ (t + u) = S)) (hv : Hid (IsVer key (encL [.text zs, .int n]) h S false)) :
    Calls Tryz.prog 11 #[.int .i64 key, .int .i64 r, .agg (bv zs).toArray, .int .i64 n, .int .i64 u, .int .i64 v, .int .i64 t] w fun e w' => e = .returned (.tuple #[.agg (stv (List.replicate 32 0) 0 0 0).toArray, .int .i64 150]) ∧ Below w.heap.size w w' := by
  have DB := Lib.hid ((Dg.box w hl.out).alloc (.cells #[.int .u8 0, .int .u8 0, .int .u8 0, .int .u8 0, .int .u8 0, .int .u8 0, .int .u8 0, .int .u8 0, .int .u8 0, .int .u8 0, .int .u8 0, .int .u8 0, .int .u8 0, .int .u8 0, .int .u8 0, .int .u8 0, .int .u8 0, .int .u8 0, .int .u8 0, .int .u8 0, .int .u8 0, .int .u8 0, .int .u8 0, .int .u8 0, .int .u8 0, .int .u8 0, .int .u8 0, .int .u8 0, .int .u8 0, .int .u8 0, .int .u8 0, .int .u8 0, .int .i64 0, .int .i64 0, .int .i64 0] 27))
  have RB := Lib.hid (show SBlk ((w.alloc (.cells (bv zs).toArray 23)).alloc (.cells #[.int .u8 0, .int .u8 0, .int .u8 0, .int .u8 0, .int .u8 0, .int .u8 0, .int .u8 0, .int .u8 0, .int .u8 0, .int .u8 0, .int .u8 0, .int .u8 0, .int .u8 0, .int .u8 0, .int .u8 0, .int .u8 0, .int .u8 0, .int .u8 0, .int .u8 0, .int .u8 0, .int .u8 0, .int .u8 0, .int .u8 0, .int .u8 0, .int .u8 0, .int .u8 0, .int .u8 0, .int .u8 0, .int .u8 0, .int .u8 0, .int .u8 0, .int .u8 0, .int .i64 0, .int .i64 0, .int .i64 0] 27)) (w.heap.size + 1) 27 (List.replicate 32 0) 0 0 0 by have := SBlk.new (w.alloc (.cells (bv zs).toArray 23)) 27; simpa using this)
  have BW := Lib.hid (show Below w.heap.size w ((w.alloc (.cells (bv zs).toArray 23)).alloc (.cells #[.int .u8 0, .int .u8 0, .int .u8 0, .int .u8 0, .int .u8 0, .int .u8 0, .int .u8 0, .int .u8 0, .int .u8 0, .int .u8 0, .int .u8 0, .int .u8 0, .int .u8 0, .int .u8 0, .int .u8 0, .int .u8 0, .int .u8 0, .int .u8 0, .int .u8 0, .int .u8 0, .int .u8 0, .int .u8 0, .int .u8 0, .int .u8 0, .int .u8 0, .int .u8 0, .int .u8 0, .int .u8 0, .int .u8 0, .int .u8 0, .int .u8 0, .int .u8 0, .int .i64 0, .int .i64 0, .int .i64 0] 27)) from (bel_alloc1 w _).alloc (by simp) _)
  go_enter Tryz.func11, Tryz.ntmps11
  go_upto_region 2 with (first
    | (refine list_loadD (by rfl) (.tmp 9) rfl w.heap.size rfl zs DB.out ?_)
    | (go_at_call 29; refine (snew_is key r zs n u v _ hl).mono ?_; rintro e w1 ⟨rfl, hb⟩; have B1 := Lib.hid (bel_trans BW.out hb); have R1 := Lib.hid (RB.out.bel hb); clear hb DB)
    | (refine list_storeIss rfl (.tmp 16) (.tmp 24) rfl w1.heap.size rfl zs n 0 0 key r u v rfl hl.out (IBlk.new w1) ?_))
  intro w2 q2 k2
  have K2 := Lib.hid (show Below w1.heap.size w1 w2 from (bel_alloc1 w1 _).trans (k2.below (Nat.le_refl _)))
  have Q2 := Lib.hid q2
  have R2 := Lib.hid (R1.out.bel K2.out)
  have B2 := Lib.hid (bel_trans B1.out K2.out)
  have lt1 := R1.out.lt
  clear q2 k2 K2 B1 R1 RB BW
  obtain ⟨ib, hib⟩ : ∃ b, w1.heap.size = b := ⟨_, rfl⟩
  rw [hib] at Q2 lt1 ⊢
  clear hib
  go_upto_region 5 with (first
    | (refine list_loadOwn (by rfl) (.tmp 25) rfl ib 0 rfl zs n 0 0 hl.out Q2.out.stamp ?_)
    | (go_at_call 30; refine (shas_any zs n 0 0 w2 hl).mono ?_; rintro e w3 ⟨rfl, hb⟩; rw [hn.out]; have Q3 := Lib.hid (Q2.out.bel hb); have R3 := Lib.hid (R2.out.bel hb); have B3 := Lib.hid (bel_trans B2.out hb); clear hb)
    | (refine list_loadOwn (by rfl) (.tmp 30) rfl ib 0 rfl zs n 0 0 hl.out Q3.out.stamp ?_))
  refine wp_region_any (by kernel_rfl) ?_
  change wpAny _ _ _ _ _ _ _ (World.drew _)
  generalize hWD : World.drew _ = W
  replace Q3 := Lib.hid (show IBlk W ib zs n 0 0 key r u v by rw [← hWD]; exact Q3.out)
  replace R3 := Lib.hid (show SBlk W (w.heap.size + 1) 27 (List.replicate 32 0) 0 0 0 by rw [← hWD]; exact R3.out)
  replace B3 := Lib.hid (show Below w.heap.size w W by rw [← hWD]; exact B3.out.drew)
  clear hWD Q2 R2 B2
  have lt3 := Lib.hid (show ib < W.heap.size from Q3.out.lt)
  have hCD : ∀ z, Ext W z → Below w.heap.size W z ∧ ∃ c s, IBlk z ib zs n c s key r u v := fun z hz => ⟨Below.mono hz B3.out.size, 0, 0, Q3.out.bel hz⟩
  refine region_U (D := fun z => Below w.heap.size W z ∧ ∃ c s, IBlk z ib zs n c s key r u v) (Ext W) [19] (Ext.refl W) ?_
  refine anyU_takeD (i := 0) (v := .pointer (some ⟨ib, 35, none⟩)) 34 rfl rfl (by kernel_rfl) (by kernel_rfl) (by kernel_rfl) (fun _ _ _ h => h) (by kernel_rfl) (Ext.stable _) hCD (yieldsU_val rfl (fun u hu => by go_simp)) ?_
  refine anyU_takeD (i := 1) (v := .int .i64 key) 35 rfl rfl (by kernel_rfl) (by kernel_rfl) (by kernel_rfl) (fun _ _ _ h => h) (by kernel_rfl) (Ext.stable _) hCD (yieldsU_val rfl (fun u hu => by obtain ⟨_, cc, ss, hq⟩ := hu; obtain ⟨c0, c1, c2, c3⟩ := hq.num; go_simp)) ?_
  refine anyU_takeD (i := 2) (v := .pointer (some ⟨ib, 36, none⟩)) 36 rfl rfl (by kernel_rfl) (by kernel_rfl) (by kernel_rfl) (fun _ _ _ h => h) (by kernel_rfl) (Ext.stable _) hCD (yieldsU_val rfl (fun u hu => by go_simp)) ?_
  refine anyU_takeD (i := 3) (v := .int .i64 r) 37 rfl rfl (by kernel_rfl) (by kernel_rfl) (by kernel_rfl) (fun _ _ _ h => h) (by kernel_rfl) (Ext.stable _) hCD (yieldsU_val rfl (fun u hu => by obtain ⟨_, cc, ss, hq⟩ := hu; obtain ⟨c0, c1, c2, c3⟩ := hq.num; go_simp)) ?_
  refine anyU_takeD (i := 4) (v := .func (Fn.func 31) #[.agg (stv zs n 0 0).toArray] #[]) 38 rfl rfl (by kernel_rfl) (by kernel_rfl) (by kernel_rfl) (fun _ _ _ h => h) (by kernel_rfl) (Ext.stable _) hCD (yieldsU_val rfl (fun u hu => by go_simp)) ?_
  simp only [Act.put, List.setIfInBounds_toArray, List.set_cons_succ, List.set_cons_zero]
  refine anyU_takeD (i := 6) (v := .pointer (some ⟨ib, 37, none⟩)) 40 rfl rfl (by kernel_rfl) (by kernel_rfl) (by kernel_rfl) (fun _ _ _ h => h) (by kernel_rfl) (Ext.stable _) hCD (yieldsU_val rfl (fun u hu => by go_simp)) ?_
  refine anyU_takeD (i := 7) (v := .int .i64 u) 41 rfl rfl (by kernel_rfl) (by kernel_rfl) (by kernel_rfl) (fun _ _ _ h => h) (by kernel_rfl) (Ext.stable _) hCD (yieldsU_val rfl (fun u hu => by obtain ⟨_, cc, ss, hq⟩ := hu; obtain ⟨c0, c1, c2, c3⟩ := hq.num; go_simp)) ?_
  refine anyU_takeD (i := 8) (v := .pointer (some ⟨ib, 38, none⟩)) 42 rfl rfl (by kernel_rfl) (by kernel_rfl) (by kernel_rfl) (fun _ _ _ h => h) (by kernel_rfl) (Ext.stable _) hCD (yieldsU_val rfl (fun u hu => by go_simp)) ?_
  refine anyU_takeD (i := 9) (v := .int .i64 v) 43 rfl rfl (by kernel_rfl) (by kernel_rfl) (by kernel_rfl) (fun _ _ _ h => h) (by kernel_rfl) (Ext.stable _) hCD (yieldsU_val rfl (fun u hu => by obtain ⟨_, cc, ss, hq⟩ := hu; obtain ⟨c0, c1, c2, c3⟩ := hq.num; go_simp)) ?_
  refine anyU_takeD (i := 10) (v := .int .i64 t) 44 rfl rfl (by kernel_rfl) (by kernel_rfl) (by kernel_rfl) (fun _ _ _ h => h) (by kernel_rfl) (Ext.stable _) hCD (yieldsU_val rfl (fun u hu => by go_simp)) ?_
  simp only [Act.put, List.setIfInBounds_toArray, List.set_cons_succ, List.set_cons_zero]
  refine anyU_one 5 9 _ rfl rfl (by kernel_rfl) ?_
  intro u1 hu
  go_wp2_with (go_at_call 31; refine (stext_is zs n 0 0 u1 hl hok).mono ?_; rintro e u2 ⟨v2, rfl, o2, hb⟩; have O2 := Lib.hid o2; have B2 := Lib.hid (bel_trans hu hb); clear o2 hb)
  change ∃ C' : World → Prop, _ ∧ _ ∧ _ ∧ anyU _ _ _ _ _ _ 9 _ _ _
  obtain ⟨p, cp, hv2, hz2, _, _, _⟩ := own8_src O2.out
  subst v2
  have Z2 := Lib.hid hz2
  clear hz2 O2 hu
  refine anchorF (fun z => Ext W z ∧ SrcV z p (encL [.text zs, .int n]).length cp (encL [.text zs, .int n])) (fun z hz => hCD z hz.1) ((Ext.stable W).and (fun y z h k => h.below k)) ⟨B2.out, Z2.out⟩ ?_
  (try simp only [Act.put])
  refine anyU_one 11 8 _ rfl rfl (by kernel_rfl) ?_
  intro u3 hu3
  have Z3 := Lib.hid hu3.2
  have B4 := Lib.hid (bel_trans B3.out hu3.1)
  have E3 := Lib.hid hu3.1
  clear hu3
  go_wp2_with (go_at_call 35; refine (finish_bad key r u v t pt h S p _ cp (encL [.text zs, .int n]) _ hkey hr htx (Lib.hid (.inl Z3.out)) (Lib.hid (hk.out.below B4.out)) hp hh hS hv).mono ?_; rintro e u4 ⟨rfl, hb⟩; have E4 := Lib.hid (bel_trans E3.out hb); clear hb)
  change ∃ C' : World → Prop, _ ∧ _ ∧ _ ∧ anyU _ _ _ _ _ _ 8 _ _ _
  clear B4 Z3 E3
  refine anchorF (fun z => Ext W z) hCD (Ext.stable W) E4.out ?_
  (try simp only [Act.put])
  refine anyU_takeD (i := 12) (v := .tuple #[.agg #[.int .i64 0, .int .i64 0], .int .i64 150]) 33 rfl rfl (by kernel_rfl) (by kernel_rfl) (by kernel_rfl) (fun _ _ _ h => h) (by kernel_rfl) (Ext.stable _) hCD (yieldsU_val rfl (fun u hu => by go_simp)) ?_
  refine anyU_takeD (i := 13) (v := .agg #[.int .i64 0, .int .i64 0]) 46 rfl rfl (by kernel_rfl) (by kernel_rfl) (by kernel_rfl) (fun _ _ _ h => h) (by kernel_rfl) (Ext.stable _) hCD (yieldsU_val rfl (fun u hu => by go_simp)) ?_
  refine anyU_takeD (i := 14) (v := .int .i64 150) 47 rfl rfl (by kernel_rfl) (by kernel_rfl) (by kernel_rfl) (fun _ _ _ h => h) (by kernel_rfl) (Ext.stable _) hCD (yieldsU_val rfl (fun u hu => by go_simp)) ?_
  simp only [Act.put, List.setIfInBounds_toArray, List.set_cons_succ, List.set_cons_zero]
  refine anyU_takeD (i := 15) (v := .pointer (some ⟨ib, 0, none⟩)) 48 rfl rfl (by kernel_rfl) (by kernel_rfl) (by kernel_rfl) (fun _ _ _ h => h) (by kernel_rfl) (Ext.stable _) hCD (yieldsU_val rfl (fun u hu => by go_simp)) ?_
  refine anyU_takeD (i := 16) (v := .pointer (some ⟨ib, 0, none⟩)) 49 rfl rfl (by kernel_rfl) (by kernel_rfl) (by kernel_rfl) (fun _ _ _ h => h) (by kernel_rfl) (Ext.stable _) hCD (yieldsU_val rfl (fun u hu => by go_simp)) ?_
  refine anyU_takeD (i := 17) (v := .pointer (some ⟨ib, 33, none⟩)) 50 rfl rfl (by kernel_rfl) (by kernel_rfl) (by kernel_rfl) (fun _ _ _ h => h) (by kernel_rfl) (Ext.stable _) hCD (yieldsU_val rfl (fun u hu => by go_simp)) ?_
  simp only [Act.put, List.setIfInBounds_toArray, List.set_cons_succ, List.set_cons_zero]
  refine anyU_one 18 1 _ rfl rfl (by kernel_rfl) ?_
  intro u5 hu5
  have B5 := Lib.hid (bel_trans B3.out hu5)
  have Q5 := Lib.hid (Q3.out.bel hu5)
  have R5 := Lib.hid (R3.out.bel hu5)
  have D5 := Lib.hid (show Below w.heap.size W u5 from Below.mono hu5 B3.out.size)
  have lt5 := B5.out.size
  clear hu5 E4
  obtain ⟨f0, f1, g0, g1⟩ := Q5.out.sigs
  have lt6 := Q5.out.lt
  go_wp2_with fail
  change ∃ C' : World → Prop, _ ∧ _ ∧ _ ∧ anyU _ _ _ _ _ _ 1 _ _ _
  have Q6 := Lib.hid (Q5.out.setSig 0 0)
  have R6 := Lib.hid (show SBlk ((u5.setCell ⟨ib, 33, none⟩ (.int .i64 0)).setCell ⟨ib, 34, none⟩ (.int .i64 0)) (w.heap.size + 1) 27 (List.replicate 32 0) 0 0 0 from (R5.out.other (b' := ib) 33 (.int .i64 0) (by omega)).other (b' := ib) 34 (.int .i64 0) (by omega))
  have D6 := Lib.hid ((D5.out.setCell (p := ⟨ib, 33, none⟩) (show w.heap.size ≤ ib by omega) (.int .i64 0)).setCell (p := ⟨ib, 34, none⟩) (show w.heap.size ≤ ib by omega) (.int .i64 0))
  clear B5 Q5 R5 D5 f0 f1 g0 g1 lt5 lt6
  generalize World.setCell (World.setCell u5 _ _) _ _ = W6 at *
  refine anchorF (fun z => Below w.heap.size W z ∧ IBlk z ib zs n 0 0 key r u v ∧ SBlk z (w.heap.size + 1) 27 (List.replicate 32 0) 0 0 0) (fun z hz => ⟨hz.1, _, _, hz.2.1⟩) (Stable.and (stable_below B3.out.size) (Stable.and (fun y z h k => IBlk.bel h k) (fun y z h k => SBlk.bel h k))) ⟨D6.out, Q6.out, R6.out⟩ ?_
  (try simp only [Act.put])
  refine anyU_tail 19 [] rfl rfl (by decide) (by kernel_rfl) ?_
  intro u7 hu7
  simp only [Act.put, List.filterMap_cons, List.filterMap_nil, List.getElem?_cons_succ, List.getElem?_cons_zero]
  have Q6 := Lib.hid hu7.2.1
  have R6 := Lib.hid hu7.2.2
  have B6 := Lib.hid (show Below w.heap.size w u7 from B3.out.trans hu7.1)
  clear hu7 B3 R3 Q3
  go_upto_region 6 with fail
  go_wp2_with (first
    | (refine list_storeApi rfl (.tmp 14) (.tmp 53) rfl (w.heap.size + 1) rfl (List.replicate 32 0) 0 0 0 rfl rfl 27 _ _ _ _ R6.out ?_))
  intro w7 q7 k7
  have Q7 := Lib.hid q7
  have B7 := Lib.hid (B6.out.trans (k7.below (by omega)))
  clear q7 k7
  go_wp2_with fail
  refine bodyPost_ret (v := .tuple #[.agg (stv (List.replicate 32 0) 0 0 0).toArray, .int .i64 150]) (results_cell_tmp (a := ⟨w.heap.size + 1, 0, none⟩) Tryz.results11 _ rfl (load_st Q7.out)) rfl ⟨rfl, B7.out⟩
set_option maxRecDepth 100000 in
set_option maxHeartbeats 4000000 in
theorem stake_yes (key r : Int) (zs : List Int) (n u v t : Int) (w : World) (hl : Hid (zs.length = 32)) (hn : Hid (valB n = true)) (hok : Hid (∀ a ∈ [Atom.text zs, .int n], a.ok)) (htx : Hid (txOk (encL [.text zs, .int n]))) (hkey : Hid (elB key = true)) (hr : Hid (elB r = true)) (hk : Hid (KeysAt w)) (pt h S : Int) (hp : Hid (IsBp key r u v pt)) (hh : Hid (IsCh pt key (encL [.text zs, .int n]) h)) (hS : Hid (modQ (t + u) = S)) (hv : Hid (IsVer key (encL [.text zs, .int n]) h S true)) :
    Calls Tryz.prog 11 #[.int .i64 key, .int .i64 r, .agg (bv zs).toArray, .int .i64 n, .int .i64 u, .int .i64 v, .int .i64 t] w fun e w' => e = .returned (.tuple #[.agg (stv zs n h S).toArray, .int .i64 0]) ∧ Below w.heap.size w w' := by
  have DB := Lib.hid ((Dg.box w hl.out).alloc (.cells #[.int .u8 0, .int .u8 0, .int .u8 0, .int .u8 0, .int .u8 0, .int .u8 0, .int .u8 0, .int .u8 0, .int .u8 0, .int .u8 0, .int .u8 0, .int .u8 0, .int .u8 0, .int .u8 0, .int .u8 0, .int .u8 0, .int .u8 0, .int .u8 0, .int .u8 0, .int .u8 0, .int .u8 0, .int .u8 0, .int .u8 0, .int .u8 0, .int .u8 0, .int .u8 0, .int .u8 0, .int .u8 0, .int .u8 0, .int .u8 0, .int .u8 0, .int .u8 0, .int .i64 0, .int .i64 0, .int .i64 0] 27))
  have RB := Lib.hid (show SBlk ((w.alloc (.cells (bv zs).toArray 23)).alloc (.cells #[.int .u8 0, .int .u8 0, .int .u8 0, .int .u8 0, .int .u8 0, .int .u8 0, .int .u8 0, .int .u8 0, .int .u8 0, .int .u8 0, .int .u8 0, .int .u8 0, .int .u8 0, .int .u8 0, .int .u8 0, .int .u8 0, .int .u8 0, .int .u8 0, .int .u8 0, .int .u8 0, .int .u8 0, .int .u8 0, .int .u8 0, .int .u8 0, .int .u8 0, .int .u8 0, .int .u8 0, .int .u8 0, .int .u8 0, .int .u8 0, .int .u8 0, .int .u8 0, .int .i64 0, .int .i64 0, .int .i64 0] 27)) (w.heap.size + 1) 27 (List.replicate 32 0) 0 0 0 by have := SBlk.new (w.alloc (.cells (bv zs).toArray 23)) 27; simpa using this)
  have BW := Lib.hid (show Below w.heap.size w ((w.alloc (.cells (bv zs).toArray 23)).alloc (.cells #[.int .u8 0, .int .u8 0, .int .u8 0, .int .u8 0, .int .u8 0, .int .u8 0, .int .u8 0, .int .u8 0, .int .u8 0, .int .u8 0, .int .u8 0, .int .u8 0, .int .u8 0, .int .u8 0, .int .u8 0, .int .u8 0, .int .u8 0, .int .u8 0, .int .u8 0, .int .u8 0, .int .u8 0, .int .u8 0, .int .u8 0, .int .u8 0, .int .u8 0, .int .u8 0, .int .u8 0, .int .u8 0, .int .u8 0, .int .u8 0, .int .u8 0, .int .u8 0, .int .i64 0, .int .i64 0, .int .i64 0] 27)) from (bel_alloc1 w _).alloc (by simp) _)
  go_enter Tryz.func11, Tryz.ntmps11
  go_upto_region 2 with (first
    | (refine list_loadD (by rfl) (.tmp 9) rfl w.heap.size rfl zs DB.out ?_)
    | (go_at_call 29; refine (snew_is key r zs n u v _ hl).mono ?_; rintro e w1 ⟨rfl, hb⟩; have B1 := Lib.hid (bel_trans BW.out hb); have R1 := Lib.hid (RB.out.bel hb); clear hb DB)
    | (refine list_storeIss rfl (.tmp 16) (.tmp 24) rfl w1.heap.size rfl zs n 0 0 key r u v rfl hl.out (IBlk.new w1) ?_))
  intro w2 q2 k2
  have K2 := Lib.hid (show Below w1.heap.size w1 w2 from (bel_alloc1 w1 _).trans (k2.below (Nat.le_refl _)))
  have Q2 := Lib.hid q2
  have R2 := Lib.hid (R1.out.bel K2.out)
  have B2 := Lib.hid (bel_trans B1.out K2.out)
  have lt1 := R1.out.lt
  clear q2 k2 K2 B1 R1 RB BW
  obtain ⟨ib, hib⟩ : ∃ b, w1.heap.size = b := ⟨_, rfl⟩
  rw [hib] at Q2 lt1 ⊢
  clear hib
  go_upto_region 5 with (first
    | (refine list_loadOwn (by rfl) (.tmp 25) rfl ib 0 rfl zs n 0 0 hl.out Q2.out.stamp ?_)
    | (go_at_call 30; refine (shas_any zs n 0 0 w2 hl).mono ?_; rintro e w3 ⟨rfl, hb⟩; rw [hn.out]; have Q3 := Lib.hid (Q2.out.bel hb); have R3 := Lib.hid (R2.out.bel hb); have B3 := Lib.hid (bel_trans B2.out hb); clear hb)
    | (refine list_loadOwn (by rfl) (.tmp 30) rfl ib 0 rfl zs n 0 0 hl.out Q3.out.stamp ?_))
  refine wp_region_any (by kernel_rfl) ?_
  change wpAny _ _ _ _ _ _ _ (World.drew _)
  generalize hWD : World.drew _ = W
  replace Q3 := Lib.hid (show IBlk W ib zs n 0 0 key r u v by rw [← hWD]; exact Q3.out)
  replace R3 := Lib.hid (show SBlk W (w.heap.size + 1) 27 (List.replicate 32 0) 0 0 0 by rw [← hWD]; exact R3.out)
  replace B3 := Lib.hid (show Below w.heap.size w W by rw [← hWD]; exact B3.out.drew)
  clear hWD Q2 R2 B2
  have lt3 := Lib.hid (show ib < W.heap.size from Q3.out.lt)
  have hCD : ∀ z, Ext W z → Below w.heap.size W z ∧ ∃ c s, IBlk z ib zs n c s key r u v := fun z hz => ⟨Below.mono hz B3.out.size, 0, 0, Q3.out.bel hz⟩
  refine region_U (D := fun z => Below w.heap.size W z ∧ ∃ c s, IBlk z ib zs n c s key r u v) (Ext W) [19] (Ext.refl W) ?_
  refine anyU_takeD (i := 0) (v := .pointer (some ⟨ib, 35, none⟩)) 34 rfl rfl (by kernel_rfl) (by kernel_rfl) (by kernel_rfl) (fun _ _ _ h => h) (by kernel_rfl) (Ext.stable _) hCD (yieldsU_val rfl (fun u hu => by go_simp)) ?_
  refine anyU_takeD (i := 1) (v := .int .i64 key) 35 rfl rfl (by kernel_rfl) (by kernel_rfl) (by kernel_rfl) (fun _ _ _ h => h) (by kernel_rfl) (Ext.stable _) hCD (yieldsU_val rfl (fun u hu => by obtain ⟨_, cc, ss, hq⟩ := hu; obtain ⟨c0, c1, c2, c3⟩ := hq.num; go_simp)) ?_
  refine anyU_takeD (i := 2) (v := .pointer (some ⟨ib, 36, none⟩)) 36 rfl rfl (by kernel_rfl) (by kernel_rfl) (by kernel_rfl) (fun _ _ _ h => h) (by kernel_rfl) (Ext.stable _) hCD (yieldsU_val rfl (fun u hu => by go_simp)) ?_
  refine anyU_takeD (i := 3) (v := .int .i64 r) 37 rfl rfl (by kernel_rfl) (by kernel_rfl) (by kernel_rfl) (fun _ _ _ h => h) (by kernel_rfl) (Ext.stable _) hCD (yieldsU_val rfl (fun u hu => by obtain ⟨_, cc, ss, hq⟩ := hu; obtain ⟨c0, c1, c2, c3⟩ := hq.num; go_simp)) ?_
  refine anyU_takeD (i := 4) (v := .func (Fn.func 31) #[.agg (stv zs n 0 0).toArray] #[]) 38 rfl rfl (by kernel_rfl) (by kernel_rfl) (by kernel_rfl) (fun _ _ _ h => h) (by kernel_rfl) (Ext.stable _) hCD (yieldsU_val rfl (fun u hu => by go_simp)) ?_
  simp only [Act.put, List.setIfInBounds_toArray, List.set_cons_succ, List.set_cons_zero]
  refine anyU_takeD (i := 6) (v := .pointer (some ⟨ib, 37, none⟩)) 40 rfl rfl (by kernel_rfl) (by kernel_rfl) (by kernel_rfl) (fun _ _ _ h => h) (by kernel_rfl) (Ext.stable _) hCD (yieldsU_val rfl (fun u hu => by go_simp)) ?_
  refine anyU_takeD (i := 7) (v := .int .i64 u) 41 rfl rfl (by kernel_rfl) (by kernel_rfl) (by kernel_rfl) (fun _ _ _ h => h) (by kernel_rfl) (Ext.stable _) hCD (yieldsU_val rfl (fun u hu => by obtain ⟨_, cc, ss, hq⟩ := hu; obtain ⟨c0, c1, c2, c3⟩ := hq.num; go_simp)) ?_
  refine anyU_takeD (i := 8) (v := .pointer (some ⟨ib, 38, none⟩)) 42 rfl rfl (by kernel_rfl) (by kernel_rfl) (by kernel_rfl) (fun _ _ _ h => h) (by kernel_rfl) (Ext.stable _) hCD (yieldsU_val rfl (fun u hu => by go_simp)) ?_
  refine anyU_takeD (i := 9) (v := .int .i64 v) 43 rfl rfl (by kernel_rfl) (by kernel_rfl) (by kernel_rfl) (fun _ _ _ h => h) (by kernel_rfl) (Ext.stable _) hCD (yieldsU_val rfl (fun u hu => by obtain ⟨_, cc, ss, hq⟩ := hu; obtain ⟨c0, c1, c2, c3⟩ := hq.num; go_simp)) ?_
  refine anyU_takeD (i := 10) (v := .int .i64 t) 44 rfl rfl (by kernel_rfl) (by kernel_rfl) (by kernel_rfl) (fun _ _ _ h => h) (by kernel_rfl) (Ext.stable _) hCD (yieldsU_val rfl (fun u hu => by go_simp)) ?_
  simp only [Act.put, List.setIfInBounds_toArray, List.set_cons_succ, List.set_cons_zero]
  refine anyU_one 5 9 _ rfl rfl (by kernel_rfl) ?_
  intro u1 hu
  go_wp2_with (go_at_call 31; refine (stext_is zs n 0 0 u1 hl hok).mono ?_; rintro e u2 ⟨v2, rfl, o2, hb⟩; have O2 := Lib.hid o2; have B2 := Lib.hid (bel_trans hu hb); clear o2 hb)
  change ∃ C' : World → Prop, _ ∧ _ ∧ _ ∧ anyU _ _ _ _ _ _ 9 _ _ _
  obtain ⟨p, cp, hv2, hz2, _, _, _⟩ := own8_src O2.out
  subst v2
  have Z2 := Lib.hid hz2
  clear hz2 O2 hu
  refine anchorF (fun z => Ext W z ∧ SrcV z p (encL [.text zs, .int n]).length cp (encL [.text zs, .int n])) (fun z hz => hCD z hz.1) ((Ext.stable W).and (fun y z h k => h.below k)) ⟨B2.out, Z2.out⟩ ?_
  (try simp only [Act.put])
  refine anyU_one 11 8 _ rfl rfl (by kernel_rfl) ?_
  intro u3 hu3
  have Z3 := Lib.hid hu3.2
  have B4 := Lib.hid (bel_trans B3.out hu3.1)
  have E3 := Lib.hid hu3.1
  clear hu3
  go_wp2_with (go_at_call 35; refine (finish_yes key r u v t pt h S p _ cp (encL [.text zs, .int n]) _ hkey hr htx (Lib.hid (.inl Z3.out)) (Lib.hid (hk.out.below B4.out)) hp hh hS hv).mono ?_; rintro e u4 ⟨rfl, hb⟩; have E4 := Lib.hid (bel_trans E3.out hb); clear hb)
  change ∃ C' : World → Prop, _ ∧ _ ∧ _ ∧ anyU _ _ _ _ _ _ 8 _ _ _
  clear B4 Z3 E3
  refine anchorF (fun z => Ext W z) hCD (Ext.stable W) E4.out ?_
  (try simp only [Act.put])
  refine anyU_takeD (i := 12) (v := .tuple #[.agg #[.int .i64 h, .int .i64 S], .int .i64 0]) 33 rfl rfl (by kernel_rfl) (by kernel_rfl) (by kernel_rfl) (fun _ _ _ h => h) (by kernel_rfl) (Ext.stable _) hCD (yieldsU_val rfl (fun u hu => by go_simp)) ?_
  refine anyU_takeD (i := 13) (v := .agg #[.int .i64 h, .int .i64 S]) 46 rfl rfl (by kernel_rfl) (by kernel_rfl) (by kernel_rfl) (fun _ _ _ h => h) (by kernel_rfl) (Ext.stable _) hCD (yieldsU_val rfl (fun u hu => by go_simp)) ?_
  refine anyU_takeD (i := 14) (v := .int .i64 0) 47 rfl rfl (by kernel_rfl) (by kernel_rfl) (by kernel_rfl) (fun _ _ _ h => h) (by kernel_rfl) (Ext.stable _) hCD (yieldsU_val rfl (fun u hu => by go_simp)) ?_
  simp only [Act.put, List.setIfInBounds_toArray, List.set_cons_succ, List.set_cons_zero]
  refine anyU_takeD (i := 15) (v := .pointer (some ⟨ib, 0, none⟩)) 48 rfl rfl (by kernel_rfl) (by kernel_rfl) (by kernel_rfl) (fun _ _ _ h => h) (by kernel_rfl) (Ext.stable _) hCD (yieldsU_val rfl (fun u hu => by go_simp)) ?_
  refine anyU_takeD (i := 16) (v := .pointer (some ⟨ib, 0, none⟩)) 49 rfl rfl (by kernel_rfl) (by kernel_rfl) (by kernel_rfl) (fun _ _ _ h => h) (by kernel_rfl) (Ext.stable _) hCD (yieldsU_val rfl (fun u hu => by go_simp)) ?_
  refine anyU_takeD (i := 17) (v := .pointer (some ⟨ib, 33, none⟩)) 50 rfl rfl (by kernel_rfl) (by kernel_rfl) (by kernel_rfl) (fun _ _ _ h => h) (by kernel_rfl) (Ext.stable _) hCD (yieldsU_val rfl (fun u hu => by go_simp)) ?_
  simp only [Act.put, List.setIfInBounds_toArray, List.set_cons_succ, List.set_cons_zero]
  refine anyU_one 18 1 _ rfl rfl (by kernel_rfl) ?_
  intro u5 hu5
  have B5 := Lib.hid (bel_trans B3.out hu5)
  have Q5 := Lib.hid (Q3.out.bel hu5)
  have R5 := Lib.hid (R3.out.bel hu5)
  have D5 := Lib.hid (show Below w.heap.size W u5 from Below.mono hu5 B3.out.size)
  have lt5 := B5.out.size
  clear hu5 E4
  obtain ⟨f0, f1, g0, g1⟩ := Q5.out.sigs
  have lt6 := Q5.out.lt
  go_wp2_with fail
  change ∃ C' : World → Prop, _ ∧ _ ∧ _ ∧ anyU _ _ _ _ _ _ 1 _ _ _
  have Q6 := Lib.hid (Q5.out.setSig h S)
  have R6 := Lib.hid (show SBlk ((u5.setCell ⟨ib, 33, none⟩ (.int .i64 h)).setCell ⟨ib, 34, none⟩ (.int .i64 S)) (w.heap.size + 1) 27 (List.replicate 32 0) 0 0 0 from (R5.out.other (b' := ib) 33 (.int .i64 h) (by omega)).other (b' := ib) 34 (.int .i64 S) (by omega))
  have D6 := Lib.hid ((D5.out.setCell (p := ⟨ib, 33, none⟩) (show w.heap.size ≤ ib by omega) (.int .i64 h)).setCell (p := ⟨ib, 34, none⟩) (show w.heap.size ≤ ib by omega) (.int .i64 S))
  clear B5 Q5 R5 D5 f0 f1 g0 g1 lt5 lt6
  generalize World.setCell (World.setCell u5 _ _) _ _ = W6 at *
  refine anchorF (fun z => Below w.heap.size W z ∧ IBlk z ib zs n h S key r u v ∧ SBlk z (w.heap.size + 1) 27 (List.replicate 32 0) 0 0 0) (fun z hz => ⟨hz.1, _, _, hz.2.1⟩) (Stable.and (stable_below B3.out.size) (Stable.and (fun y z h k => IBlk.bel h k) (fun y z h k => SBlk.bel h k))) ⟨D6.out, Q6.out, R6.out⟩ ?_
  (try simp only [Act.put])
  refine anyU_tail 19 [] rfl rfl (by decide) (by kernel_rfl) ?_
  intro u7 hu7
  simp only [Act.put, List.filterMap_cons, List.filterMap_nil, List.getElem?_cons_succ, List.getElem?_cons_zero]
  have Q6 := Lib.hid hu7.2.1
  have R6 := Lib.hid hu7.2.2
  have B6 := Lib.hid (show Below w.heap.size w u7 from B3.out.trans hu7.1)
  clear hu7 B3 R3 Q3
  go_upto_region 6 with fail
  go_wp2_with (first
    | (refine list_loadApi (by rfl) (.tmp 56) rfl ib 0 rfl zs n h S hl.out Q6.out.stamp ?_)
    | (refine list_storeApi rfl (.tmp 14) (.tmp 57) rfl (w.heap.size + 1) rfl zs n h S rfl hl.out 27 _ _ _ _ R6.out ?_))
  intro w7 q7 k7
  have Q7 := Lib.hid q7
  have B7 := Lib.hid (B6.out.trans (k7.below (by omega)))
  clear q7 k7
  go_wp2_with fail
  refine bodyPost_ret (v := .tuple #[.agg (stv zs n h S).toArray, .int .i64 0]) (results_cell_tmp (a := ⟨w.heap.size + 1, 0, none⟩) Tryz.results11 _ rfl (load_st Q7.out)) rfl ⟨rfl, B7.out⟩
end Go.Proofs.YtjdkdhpippapmaaGreatDoor
namespace Go.Proofs.YtjdkdhpippapmaaGreatDoor
open Go.RowKit
set_option linter.unusedVariables false
set_option linter.unusedSimpArgs false

set_option maxRecDepth 100000 in
set_option maxHeartbeats 2000000 in
theorem sask_no (key r : Int) (zs : List Int) (n u v : Int) (w : World) (hl : Hid (zs.length = 32)) (hn : Hid (valB n = false)) :
    Calls Tryz.prog 9 #[.int .i64 key, .int .i64 r, .agg (bv zs).toArray, .int .i64 n, .int .i64 u, .int .i64 v] w fun e w' => e = .returned (.tuple #[.int .i64 0, .int .i64 370]) ∧ Below w.heap.size w w' := by
  have DB := Lib.hid (Dg.box w hl.out)
  go_enter Tryz.func9, Tryz.ntmps9
  go_upto_region 2 with (first
    | (refine list_loadD (by rfl) (.tmp 8) rfl w.heap.size rfl zs DB.out ?_)
    | (go_at_call 29; refine (snew_is key r zs n u v _ hl).mono ?_; rintro e w1 ⟨rfl, hb⟩; have B1 := Lib.hid (bel_trans (bel_alloc1 w (.cells (bv zs).toArray 23)) hb); clear hb)
    | (refine list_storeIss rfl (.tmp 14) (.tmp 22) rfl w1.heap.size rfl zs n 0 0 key r u v rfl hl.out (IBlk.new w1) ?_))
  intro w2 q2 k2
  have K2 := Lib.hid (show Below w1.heap.size w1 w2 from (bel_alloc1 w1 _).trans (k2.below (Nat.le_refl _)))
  have Q2 := Lib.hid q2
  have B2 := Lib.hid (bel_trans B1.out K2.out)
  clear q2 k2 K2 B1 DB
  generalize w1.heap.size = ib at Q2 ⊢
  go_wp2_with (first
    | (refine list_loadOwn (by rfl) (.tmp 23) rfl ib 0 rfl zs n 0 0 hl.out Q2.out.stamp ?_)
    | (go_at_call 30; refine (shas_any zs n 0 0 w2 hl).mono ?_; rintro e w3 ⟨rfl, hb⟩; rw [hn.out]; have Q3 := Lib.hid (Q2.out.bel hb); have B3 := Lib.hid (bel_trans B2.out hb); clear hb))
  go_ret2
  exact ⟨rfl, B3.out⟩

set_option maxRecDepth 100000 in
set_option maxHeartbeats 2000000 in
theorem sask_el (key r : Int) (zs : List Int) (n u v : Int) (w : World) (hl : Hid (zs.length = 32)) (hn : Hid (valB n = true)) (hok : Hid (∀ a ∈ [Atom.text zs, .int n], a.ok)) (h : Hid ((elB key && elB r) = false)) :
    Calls Tryz.prog 9 #[.int .i64 key, .int .i64 r, .agg (bv zs).toArray, .int .i64 n, .int .i64 u, .int .i64 v] w fun e w' => e = .returned (.tuple #[.int .i64 0, .int .i64 90]) ∧ Below w.heap.size w w' := by
  have DB := Lib.hid (Dg.box w hl.out)
  go_enter Tryz.func9, Tryz.ntmps9
  go_upto_region 2 with (first
    | (refine list_loadD (by rfl) (.tmp 8) rfl w.heap.size rfl zs DB.out ?_)
    | (go_at_call 29; refine (snew_is key r zs n u v _ hl).mono ?_; rintro e w1 ⟨rfl, hb⟩; have B1 := Lib.hid (bel_trans (bel_alloc1 w (.cells (bv zs).toArray 23)) hb); clear hb)
    | (refine list_storeIss rfl (.tmp 14) (.tmp 22) rfl w1.heap.size rfl zs n 0 0 key r u v rfl hl.out (IBlk.new w1) ?_))
  intro w2 q2 k2
  have K2 := Lib.hid (show Below w1.heap.size w1 w2 from (bel_alloc1 w1 _).trans (k2.below (Nat.le_refl _)))
  have Q2 := Lib.hid q2
  have B2 := Lib.hid (bel_trans B1.out K2.out)
  clear q2 k2 K2 B1 DB
  generalize w1.heap.size = ib at Q2 ⊢
  go_upto_region 5 with (first
    | (refine list_loadOwn (by rfl) (.tmp 23) rfl ib 0 rfl zs n 0 0 hl.out Q2.out.stamp ?_)
    | (go_at_call 30; refine (shas_any zs n 0 0 w2 hl).mono ?_; rintro e w3 ⟨rfl, hb⟩; rw [hn.out]; have Q3 := Lib.hid (Q2.out.bel hb); have B3 := Lib.hid (bel_trans B2.out hb); clear hb)
    | (refine list_loadOwn (by rfl) (.tmp 27) rfl ib 0 rfl zs n 0 0 hl.out Q3.out.stamp ?_))
  refine wp_region_any (by kernel_rfl) ?_
  change wpAny _ _ _ _ _ _ _ (World.drew _)
  generalize hWD : World.drew _ = W
  replace Q3 := Lib.hid (show IBlk W ib zs n 0 0 key r u v by rw [← hWD]; exact Q3.out)
  replace B3 := Lib.hid (show Below w.heap.size w W by rw [← hWD]; exact B3.out.drew)
  clear hWD
  have hCD : ∀ u, Ext W u → Ext W u := fun u hu => hu
  refine region_U (D := Ext W) (Ext W) [13, 14] (Ext.refl W) ?_
  refine anyU_takeD (i := 0) (v := .pointer (some ⟨ib, 35, none⟩)) 30 rfl rfl (by kernel_rfl) (by kernel_rfl) (by kernel_rfl) (fun _ _ _ h => h) (by kernel_rfl) (Ext.stable _) hCD (yieldsU_val rfl (fun u hu => by go_simp)) ?_
  refine anyU_takeD (i := 1) (v := .int .i64 key) 31 rfl rfl (by kernel_rfl) (by kernel_rfl) (by kernel_rfl) (fun _ _ _ h => h) (by kernel_rfl) (Ext.stable _) hCD (yieldsU_val rfl (fun u hu => by obtain ⟨c0, c1, c2, c3⟩ := (Q3.out.bel hu).num; go_simp)) ?_
  refine anyU_takeD (i := 2) (v := .pointer (some ⟨ib, 36, none⟩)) 32 rfl rfl (by kernel_rfl) (by kernel_rfl) (by kernel_rfl) (fun _ _ _ h => h) (by kernel_rfl) (Ext.stable _) hCD (yieldsU_val rfl (fun u hu => by go_simp)) ?_
  refine anyU_takeD (i := 3) (v := .int .i64 r) 33 rfl rfl (by kernel_rfl) (by kernel_rfl) (by kernel_rfl) (fun _ _ _ h => h) (by kernel_rfl) (Ext.stable _) hCD (yieldsU_val rfl (fun u hu => by obtain ⟨c0, c1, c2, c3⟩ := (Q3.out.bel hu).num; go_simp)) ?_
  refine anyU_takeD (i := 4) (v := .func (Fn.func 31) #[.agg (stv zs n 0 0).toArray] #[]) 34 rfl rfl (by kernel_rfl) (by kernel_rfl) (by kernel_rfl) (fun _ _ _ h => h) (by kernel_rfl) (Ext.stable _) hCD (yieldsU_val rfl (fun u hu => by go_simp)) ?_
  simp only [Act.put, List.setIfInBounds_toArray, List.set_cons_succ, List.set_cons_zero]
  refine anyU_takeD (i := 6) (v := .pointer (some ⟨ib, 37, none⟩)) 36 rfl rfl (by kernel_rfl) (by kernel_rfl) (by kernel_rfl) (fun _ _ _ h => h) (by kernel_rfl) (Ext.stable _) hCD (yieldsU_val rfl (fun u hu => by go_simp)) ?_
  refine anyU_takeD (i := 7) (v := .int .i64 u) 37 rfl rfl (by kernel_rfl) (by kernel_rfl) (by kernel_rfl) (fun _ _ _ h => h) (by kernel_rfl) (Ext.stable _) hCD (yieldsU_val rfl (fun u hu => by obtain ⟨c0, c1, c2, c3⟩ := (Q3.out.bel hu).num; go_simp)) ?_
  refine anyU_takeD (i := 8) (v := .pointer (some ⟨ib, 38, none⟩)) 38 rfl rfl (by kernel_rfl) (by kernel_rfl) (by kernel_rfl) (fun _ _ _ h => h) (by kernel_rfl) (Ext.stable _) hCD (yieldsU_val rfl (fun u hu => by go_simp)) ?_
  refine anyU_takeD (i := 9) (v := .int .i64 v) 39 rfl rfl (by kernel_rfl) (by kernel_rfl) (by kernel_rfl) (fun _ _ _ h => h) (by kernel_rfl) (Ext.stable _) hCD (yieldsU_val rfl (fun u hu => by obtain ⟨c0, c1, c2, c3⟩ := (Q3.out.bel hu).num; go_simp)) ?_
  simp only [Act.put, List.setIfInBounds_toArray, List.set_cons_succ, List.set_cons_zero]
  refine anyU_one 5 5 _ rfl rfl (by kernel_rfl) ?_
  intro u1 hu
  go_wp2_with (go_at_call 31; refine (stext_is zs n 0 0 u1 hl hok).mono ?_; rintro e u2 ⟨v2, rfl, o2, hb⟩; have O2 := Lib.hid o2; have B2 := Lib.hid (bel_trans hu hb); clear o2 hb)
  change ∃ C' : World → Prop, _ ∧ _ ∧ _ ∧ anyU _ _ _ _ _ _ 5 _ _ _
  obtain ⟨p, cp, hv2, hz2, _, _, _⟩ := own8_src O2.out
  subst v2
  have Z2 := Lib.hid hz2
  clear hz2 O2 hu
  refine anchorF (fun z => Ext W z ∧ SrcV z p (encL [.text zs, .int n]).length cp (encL [.text zs, .int n])) (fun z hz => hz.1) ((Ext.stable W).and (fun y z h k => h.below k)) ⟨B2.out, Z2.out⟩ ?_
  (try simp only [Act.put])
  refine anyU_one 10 4 _ rfl rfl (by kernel_rfl) ?_
  intro u3 hu3
  have Z3 := Lib.hid hu3.2
  have B4 := Lib.hid (bel_trans B3.out hu3.1)
  have E3 := Lib.hid hu3.1
  clear hu3
  go_wp2_with (go_at_call 32; refine (ask_no key r u v p _ cp _ h).mono ?_; rintro e u4 ⟨rfl, hb⟩; have E4 := Lib.hid (bel_trans E3.out hb); clear hb)
  change ∃ C' : World → Prop, _ ∧ _ ∧ _ ∧ anyU _ _ _ _ _ _ 4 _ _ _
  clear B4 Z3 E3
  refine anchorF (fun z => Ext W z) (fun z hz => hz) (Ext.stable W) E4.out ?_
  (try simp only [Act.put])
  refine anyU_takeD (i := 11) (v := .int .i64 0) 41 rfl rfl (by kernel_rfl) (by kernel_rfl) (by kernel_rfl) (fun _ _ _ h => h) (by kernel_rfl) (Ext.stable _) hCD (yieldsU_val rfl (fun u hu => by go_simp)) ?_
  refine anyU_takeD (i := 12) (v := .int .i64 90) 42 rfl rfl (by kernel_rfl) (by kernel_rfl) (by kernel_rfl) (fun _ _ _ h => h) (by kernel_rfl) (Ext.stable _) hCD (yieldsU_val rfl (fun u hu => by go_simp)) ?_
  refine anyU_tail 13 [14] rfl rfl (by decide) (by kernel_rfl) ?_
  intro u5 hu5
  simp only [Act.put, List.filterMap_cons, List.filterMap_nil, List.getElem?_cons_succ, List.getElem?_cons_zero]
  have B5 := Lib.hid (bel_trans B3.out hu5)
  clear hu5
  go_wp2_with fail
  go_ret2
  exact ⟨rfl, B5.out⟩

set_option maxRecDepth 100000 in
set_option maxHeartbeats 2000000 in
theorem sask_yes (key r : Int) (zs : List Int) (n u v : Int) (w : World) (hl : Hid (zs.length = 32)) (hn : Hid (valB n = true)) (hok : Hid (∀ a ∈ [Atom.text zs, .int n], a.ok)) (htx : Hid (txOk (encL [.text zs, .int n]))) (hkey : Hid (elB key = true)) (hr : Hid (elB r = true)) (hk : Hid (KeysAt w)) (pt h a : Int) (hp : Hid (IsBp key r u v pt)) (hh : Hid (IsCh pt key (encL [.text zs, .int n]) h)) (ha : Hid (modQ (h + v) = a)) :
    Calls Tryz.prog 9 #[.int .i64 key, .int .i64 r, .agg (bv zs).toArray, .int .i64 n, .int .i64 u, .int .i64 v] w fun e w' => e = .returned (.tuple #[.int .i64 a, .int .i64 0]) ∧ Below w.heap.size w w' := by
  have DB := Lib.hid (Dg.box w hl.out)
  go_enter Tryz.func9, Tryz.ntmps9
  go_upto_region 2 with (first
    | (refine list_loadD (by rfl) (.tmp 8) rfl w.heap.size rfl zs DB.out ?_)
    | (go_at_call 29; refine (snew_is key r zs n u v _ hl).mono ?_; rintro e w1 ⟨rfl, hb⟩; have B1 := Lib.hid (bel_trans (bel_alloc1 w (.cells (bv zs).toArray 23)) hb); clear hb)
    | (refine list_storeIss rfl (.tmp 14) (.tmp 22) rfl w1.heap.size rfl zs n 0 0 key r u v rfl hl.out (IBlk.new w1) ?_))
  intro w2 q2 k2
  have K2 := Lib.hid (show Below w1.heap.size w1 w2 from (bel_alloc1 w1 _).trans (k2.below (Nat.le_refl _)))
  have Q2 := Lib.hid q2
  have B2 := Lib.hid (bel_trans B1.out K2.out)
  clear q2 k2 K2 B1 DB
  generalize w1.heap.size = ib at Q2 ⊢
  go_upto_region 5 with (first
    | (refine list_loadOwn (by rfl) (.tmp 23) rfl ib 0 rfl zs n 0 0 hl.out Q2.out.stamp ?_)
    | (go_at_call 30; refine (shas_any zs n 0 0 w2 hl).mono ?_; rintro e w3 ⟨rfl, hb⟩; rw [hn.out]; have Q3 := Lib.hid (Q2.out.bel hb); have B3 := Lib.hid (bel_trans B2.out hb); clear hb)
    | (refine list_loadOwn (by rfl) (.tmp 27) rfl ib 0 rfl zs n 0 0 hl.out Q3.out.stamp ?_))
  refine wp_region_any (by kernel_rfl) ?_
  change wpAny _ _ _ _ _ _ _ (World.drew _)
  generalize hWD : World.drew _ = W
  replace Q3 := Lib.hid (show IBlk W ib zs n 0 0 key r u v by rw [← hWD]; exact Q3.out)
  replace B3 := Lib.hid (show Below w.heap.size w W by rw [← hWD]; exact B3.out.drew)
  clear hWD
  have hCD : ∀ u, Ext W u → Ext W u := fun u hu => hu
  refine region_U (D := Ext W) (Ext W) [13, 14] (Ext.refl W) ?_
  refine anyU_takeD (i := 0) (v := .pointer (some ⟨ib, 35, none⟩)) 30 rfl rfl (by kernel_rfl) (by kernel_rfl) (by kernel_rfl) (fun _ _ _ h => h) (by kernel_rfl) (Ext.stable _) hCD (yieldsU_val rfl (fun u hu => by go_simp)) ?_
  refine anyU_takeD (i := 1) (v := .int .i64 key) 31 rfl rfl (by kernel_rfl) (by kernel_rfl) (by kernel_rfl) (fun _ _ _ h => h) (by kernel_rfl) (Ext.stable _) hCD (yieldsU_val rfl (fun u hu => by obtain ⟨c0, c1, c2, c3⟩ := (Q3.out.bel hu).num; go_simp)) ?_
  refine anyU_takeD (i := 2) (v := .pointer (some ⟨ib, 36, none⟩)) 32 rfl rfl (by kernel_rfl) (by kernel_rfl) (by kernel_rfl) (fun _ _ _ h => h) (by kernel_rfl) (Ext.stable _) hCD (yieldsU_val rfl (fun u hu => by go_simp)) ?_
  refine anyU_takeD (i := 3) (v := .int .i64 r) 33 rfl rfl (by kernel_rfl) (by kernel_rfl) (by kernel_rfl) (fun _ _ _ h => h) (by kernel_rfl) (Ext.stable _) hCD (yieldsU_val rfl (fun u hu => by obtain ⟨c0, c1, c2, c3⟩ := (Q3.out.bel hu).num; go_simp)) ?_
  refine anyU_takeD (i := 4) (v := .func (Fn.func 31) #[.agg (stv zs n 0 0).toArray] #[]) 34 rfl rfl (by kernel_rfl) (by kernel_rfl) (by kernel_rfl) (fun _ _ _ h => h) (by kernel_rfl) (Ext.stable _) hCD (yieldsU_val rfl (fun u hu => by go_simp)) ?_
  simp only [Act.put, List.setIfInBounds_toArray, List.set_cons_succ, List.set_cons_zero]
  refine anyU_takeD (i := 6) (v := .pointer (some ⟨ib, 37, none⟩)) 36 rfl rfl (by kernel_rfl) (by kernel_rfl) (by kernel_rfl) (fun _ _ _ h => h) (by kernel_rfl) (Ext.stable _) hCD (yieldsU_val rfl (fun u hu => by go_simp)) ?_
  refine anyU_takeD (i := 7) (v := .int .i64 u) 37 rfl rfl (by kernel_rfl) (by kernel_rfl) (by kernel_rfl) (fun _ _ _ h => h) (by kernel_rfl) (Ext.stable _) hCD (yieldsU_val rfl (fun u hu => by obtain ⟨c0, c1, c2, c3⟩ := (Q3.out.bel hu).num; go_simp)) ?_
  refine anyU_takeD (i := 8) (v := .pointer (some ⟨ib, 38, none⟩)) 38 rfl rfl (by kernel_rfl) (by kernel_rfl) (by kernel_rfl) (fun _ _ _ h => h) (by kernel_rfl) (Ext.stable _) hCD (yieldsU_val rfl (fun u hu => by go_simp)) ?_
  refine anyU_takeD (i := 9) (v := .int .i64 v) 39 rfl rfl (by kernel_rfl) (by kernel_rfl) (by kernel_rfl) (fun _ _ _ h => h) (by kernel_rfl) (Ext.stable _) hCD (yieldsU_val rfl (fun u hu => by obtain ⟨c0, c1, c2, c3⟩ := (Q3.out.bel hu).num; go_simp)) ?_
  simp only [Act.put, List.setIfInBounds_toArray, List.set_cons_succ, List.set_cons_zero]
  refine anyU_one 5 5 _ rfl rfl (by kernel_rfl) ?_
  intro u1 hu
  go_wp2_with (go_at_call 31; refine (stext_is zs n 0 0 u1 hl hok).mono ?_; rintro e u2 ⟨v2, rfl, o2, hb⟩; have O2 := Lib.hid o2; have B2 := Lib.hid (bel_trans hu hb); clear o2 hb)
  change ∃ C' : World → Prop, _ ∧ _ ∧ _ ∧ anyU _ _ _ _ _ _ 5 _ _ _
  obtain ⟨p, cp, hv2, hz2, _, _, _⟩ := own8_src O2.out
  subst v2
  have Z2 := Lib.hid hz2
  clear hz2 O2 hu
  refine anchorF (fun z => Ext W z ∧ SrcV z p (encL [.text zs, .int n]).length cp (encL [.text zs, .int n])) (fun z hz => hz.1) ((Ext.stable W).and (fun y z h k => h.below k)) ⟨B2.out, Z2.out⟩ ?_
  (try simp only [Act.put])
  refine anyU_one 10 4 _ rfl rfl (by kernel_rfl) ?_
  intro u3 hu3
  have Z3 := Lib.hid hu3.2
  have B4 := Lib.hid (bel_trans B3.out hu3.1)
  have E3 := Lib.hid hu3.1
  clear hu3
  go_wp2_with (go_at_call 32; refine (ask_yes key r u v pt h a p _ cp (encL [.text zs, .int n]) _ hkey hr htx (Lib.hid (.inl Z3.out)) (Lib.hid (hk.out.below B4.out)) hp hh ha).mono ?_; rintro e u4 ⟨rfl, hb⟩; have E4 := Lib.hid (bel_trans E3.out hb); clear hb)
  change ∃ C' : World → Prop, _ ∧ _ ∧ _ ∧ anyU _ _ _ _ _ _ 4 _ _ _
  clear B4 Z3 E3
  refine anchorF (fun z => Ext W z) (fun z hz => hz) (Ext.stable W) E4.out ?_
  (try simp only [Act.put])
  refine anyU_takeD (i := 11) (v := .int .i64 a) 41 rfl rfl (by kernel_rfl) (by kernel_rfl) (by kernel_rfl) (fun _ _ _ h => h) (by kernel_rfl) (Ext.stable _) hCD (yieldsU_val rfl (fun u hu => by go_simp)) ?_
  refine anyU_takeD (i := 12) (v := .int .i64 0) 42 rfl rfl (by kernel_rfl) (by kernel_rfl) (by kernel_rfl) (fun _ _ _ h => h) (by kernel_rfl) (Ext.stable _) hCD (yieldsU_val rfl (fun u hu => by go_simp)) ?_
  refine anyU_tail 13 [14] rfl rfl (by decide) (by kernel_rfl) ?_
  intro u5 hu5
  simp only [Act.put, List.filterMap_cons, List.filterMap_nil, List.getElem?_cons_succ, List.getElem?_cons_zero]
  have B5 := Lib.hid (bel_trans B3.out hu5)
  clear hu5
  go_wp2_with fail
  go_ret2
  exact ⟨rfl, B5.out⟩
end Go.Proofs.YtjdkdhpippapmaaGreatDoor
namespace Go.Proofs.YtjdkdhpippapmaaGreatDoor
open Go.RowKit
set_option linter.unusedVariables false
set_option linter.unusedSimpArgs false

theorem take_app (zs : List Int) (k : Nat) (h : k < zs.length) : zs.take k ++ [zs.getD k 0] = zs.take (k + 1) := by
  rw [List.take_add_one, List.getD_eq_getElem?_getD, List.getElem?_eq_getElem h]; simp
set_option maxRecDepth 100000 in
set_option maxHeartbeats 2000000 in
theorem r13Text_is (zs : List Int) (w : World) (hl : Hid (zs.length = 32)) (st : ByteArray) (hst : Hid (strB zs = st)) :
    Calls Tryz.prog 62 #[.agg (bv zs).toArray] w fun e w' => e = .returned (.agg #[.int .i64 2, .int .i64 0, .string st, .slice none 0 0]) ∧ Below w.heap.size w w' := by
  go_enter Tryz.func62, Tryz.ntmps62
  go_upto_region 1 with fail
  generalize hW : World.alloc _ _ = W1
  have D1 := Lib.hid (show Dg W1 w.heap.size zs by rw [← hW]; exact (Dg.box w hl.out).alloc _)
  have V1 := Lib.hid (show Blk W1 (w.heap.size + 1) #[.int .i64 0, .int .i64 0, .string ⟨#[]⟩, .slice none 0 0] 53 by rw [← hW]; have := Blk.new (w.alloc (.cells (bv zs).toArray 23)) #[.int .i64 0, .int .i64 0, .string ⟨#[]⟩, .slice none 0 0] 53; simpa using this)
  have B1 := Lib.hid (show Below w.heap.size w W1 by rw [← hW]; exact (bel_alloc1 w _).alloc (by simp) _)
  clear hW
  go_upto_region 3 with fail
  have HO0 := Lib.hid (show Own8 (W1.alloc (.cells #[] 5)) W1.heap.size (.slice (some ⟨W1.heap.size, 0, none⟩) 0 0) (zs.take 0) from own8_empty W1)
  have HB0 := Lib.hid (bel_alloc1 W1 (.cells #[] 5))
  go_loopw [3, 4] (fun x y wr => ∃ (k : Nat) (v : Value), k ≤ 32 ∧ y = .int .i64 k ∧ v = x ∧ Hid (Own8 wr W1.heap.size v (zs.take k)) ∧ Hid (Below W1.heap.size W1 wr)) (fun _ y _ => 32 - (intOf y).toNat)
  case atStart => exact ⟨0, _, by omega, rfl, rfl, HO0, HB0⟩
  case round =>
    clear HO0 HB0
    obtain ⟨k, v, hk, rfl, rfl, HO, HB⟩ := hrel
    by_cases hlt : k < 32
    · have h0 : (k : Int) < 32 := by omega
      have hkz : k < zs.length := by rw [hl.out]; exact hlt
      have cb : wr.cell? ⟨w.heap.size, k, none⟩ = some (.int .u8 (zs.getD k 0)) := by have := (D1.out.bel HB.out).bytes k hkz; rwa [Nat.zero_add] at this
      have LD1 := (D1.out.bel HB.out).lt
      obtain ⟨x, hx⟩ : ∃ x, zs.getD k 0 = x := ⟨_, rfl⟩
      rw [hx] at cb
      have HX := Lib.hid hx
      clear hx
      go_wp2_with (at_builtin; refine app8 rfl (.tmp 10) (.tmp 14) rfl W1.heap.size v (zs.take k) rfl (own8_alloc HO.out _) (some ⟨wr.heap.size, 0, none⟩) 1 1 [x] rfl ?d1 ?d2 ?d3 ?_)
      case d1 => exact ⟨rfl, .inr ⟨_, _, rfl, by simp, one_byte wr x⟩⟩
      case d2 => simp; omega
      case d3 => have := HB.out.size; simp; omega
      intro v3 w3 ho hg
      have HB3 := Lib.hid (bel_grown8 (HB.out.alloc HB.out.size _) (own8_alloc HO.out _) hg (by have := HB.out.size; simp; omega))
      have HO3 : Hid (Own8 w3 W1.heap.size v3 (zs.take (k + 1))) := Lib.hid (by
        rw [← take_app zs k hkz, HX.out]; exact ho)
      clear ho hg cb
      go_wp2_with fail
      go_roundw
      case rel => exact ⟨k + 1, v3, by omega, by simp, rfl, HO3, HB3⟩
      case measure => simp [intOf]; omega
    · obtain rfl : k = 32 := by omega
      obtain ⟨p, cp, rfl, hs, _, _, _⟩ := own8_src HO.out
      have e32 : zs.take 32 = zs := by rw [← hl.out]; exact List.take_length
      rw [e32] at hs ⊢
      have hc := conv_srcW (w := wr) (.inl hs)
      rw [hst.out] at hc
      rw [hl.out] at hc ⊢
      have V2 := V1.out.below HB.out V1.out.lt
      have c0 := V2.cell 0
      have c1 := V2.cell 1
      have c2 := V2.cell 2
      have c3 := V2.cell 3
      have g0 := V2.frozen 0
      have g1 := V2.frozen 1
      have g2 := V2.frozen 2
      have g3 := V2.frozen 3
      have V2H := Lib.hid V2
      have B2 := Lib.hid (bel_trans B1.out HB.out)
      clear V2 HO hs
      go_wp2_with fail
      have VV : Blk _ (w.heap.size + 1) #[.int .i64 2, .int .i64 0, .string st, .slice none 0 0] 53 := (((V2H.out.set 0 (.int .i64 2)).set 1 (.int .i64 0)).set 2 (.string st)).set 3 (.slice none 0 0)
      have d0 := VV.cell 0
      have d1 := VV.cell 1
      have d2 := VV.cell 2
      have d3 := VV.cell 3
      refine bodyPost_ret (v := .agg #[.int .i64 2, .int .i64 0, .string st, .slice none 0 0]) (by simp only [results, Tryz.results62]; simp [go_sem, d0, d1, d2, d3]) rfl ⟨rfl, ?_⟩
      repeat refine Below.setCell ?_ (by simp) _
      exact B2.out
set_option maxRecDepth 100000 in
theorem r13Number_is (n : Int) (w : World) : Calls Tryz.prog 63 #[.int .i64 n] w fun e w' => e = .returned (.agg #[.int .i64 1, .int .i64 n, .string ⟨#[]⟩, .slice none 0 0]) ∧ Below w.heap.size w w' := by
  go_enter Tryz.func63, Tryz.ntmps63
  go_wp2_with fail
  refine bodyPost_ret (v := .agg #[.int .i64 1, .int .i64 n, .string ⟨#[]⟩, .slice none 0 0]) (by simp [results, Tryz.results63, go_sem]) rfl ⟨rfl, ?_⟩
  repeat refine Below.setCell ?_ (by simp) _
  exact bel_alloc1 w _
set_option maxRecDepth 100000 in
theorem r13List_is (p : Option Addr) (m c : Nat) (w : World) : Calls Tryz.prog 61 #[.slice p m c] w fun e w' => e = .returned (.agg #[.int .i64 3, .int .i64 0, .string ⟨#[]⟩, .slice p m c]) ∧ Below w.heap.size w w' := by
  go_enter Tryz.func61, Tryz.ntmps61
  go_wp2_with fail
  refine bodyPost_ret (v := .agg #[.int .i64 3, .int .i64 0, .string ⟨#[]⟩, .slice p m c]) (by simp [results, Tryz.results61, go_sem]) rfl ⟨rfl, ?_⟩
  repeat refine Below.setCell ?_ (by simp) _
  exact bel_alloc1 w _
theorem rencST (zs : List Int) (n : Int) (st : ByteArray) (w : World) (g : Nat) (hst : strB zs = st) (hl : Hid (zs.length = 32)) (hok : Hid (∀ a ∈ [Atom.text zs, .int n], a.ok)) (hB : Hid (Blk w g #[.int .i64 2, .int .i64 0, .string st, .slice none 0 0, .int .i64 1, .int .i64 n, .string ⟨#[]⟩, .slice none 0 0] 53)) :
    Calls Tryz.prog 60 #[.agg #[.int .i64 3, .int .i64 0, .string ⟨#[]⟩, .slice (some ⟨g, 0, none⟩) 2 2]] w
      fun e w' => ∃ v', e = .returned (.tuple #[v', .int .i64 0]) ∧ Own8 w' w.heap.size v' (encL [.text zs, .int n]) ∧ Below w.heap.size w w' := by
  subst hst
  have hB := hB.out
  refine rEncode_list [.text zs, .int n] g 0 2 2 w (Lib.hid rfl) (by omega) hok hB.lt (Lib.hid ?_) (Lib.hid (by have := hl.out; simp [lenA, Atom.sz]; omega))
  intro k hk
  have hk' : k < 2 := hk
  rcases (by omega : k = 0 ∨ k = 1) with rfl | rfl
  · exact ⟨hB.cell 0, hB.cell 1, hB.cell 2, hB.cell 3⟩
  · exact ⟨hB.cell 4, hB.cell 5, hB.cell 6, hB.cell 7⟩
set_option maxRecDepth 100000 in
set_option maxHeartbeats 2000000 in
theorem rtext_is (zs : List Int) (n : Int) (w : World) (hl : Hid (zs.length = 32)) (hok : Hid (∀ a ∈ [Atom.text zs, .int n], a.ok)) :
    Calls Tryz.prog 26 #[.agg (bv zs).toArray, .int .i64 n] w fun e w' => ∃ v', e = .returned v' ∧ Own8 w' w.heap.size v' (encL [.text zs, .int n]) ∧ Below w.heap.size w w' := by
  obtain ⟨st, hst⟩ : ∃ st, strB zs = st := ⟨_, rfl⟩
  have HST := Lib.hid hst
  clear hst
  have D0 := Lib.hid (Dg.box w hl.out)
  have B0 := Lib.hid (bel_alloc1 w (.cells (bv zs).toArray 23))
  go_enter Tryz.func26, Tryz.ntmps26
  go_wp2_with (first
    | (refine list_loadD (by rfl) (.tmp 2) rfl w.heap.size rfl zs D0.out ?_)
    | (go_at_call 62; refine (r13Text_is zs _ hl st HST).mono ?_; rintro e w1 ⟨rfl, hb⟩; have B1 := Lib.hid (bel_trans B0.out hb); clear hb)
    | (go_at_call 63; refine (r13Number_is n _).mono ?_; rintro e w2 ⟨rfl, hb⟩; have B2 := Lib.hid (bel_trans B1.out hb); have V2 := Lib.hid (Blk.new w2 #[.int .i64 2, .int .i64 0, .string st, .slice none 0 0, .int .i64 1, .int .i64 n, .string ⟨#[]⟩, .slice none 0 0] 53); have B2' := Lib.hid (bel_trans B2.out (bel_alloc1 w2 (.cells #[.int .i64 2, .int .i64 0, .string st, .slice none 0 0, .int .i64 1, .int .i64 n, .string ⟨#[]⟩, .slice none 0 0] 53))); clear hb)
    | (go_at_call 61; refine (r13List_is _ _ _ _).mono ?_; rintro e w3 ⟨rfl, hb⟩; have V3 := Lib.hid (V2.out.below hb V2.out.lt); have B3 := Lib.hid (bel_trans B2'.out hb); clear hb)
    | (go_at_call 60; refine (rencST zs n st _ _ HST.out hl hok V3).mono ?_; rintro e w4 ⟨v4, rfl, o4, hb⟩; have O4 := Lib.hid (own8_mono o4 B3.out.size); have B4 := Lib.hid (bel_trans B3.out hb); clear o4 hb))
  go_ret
  exact ⟨v4, rfl, O4.out, B4.out⟩
set_option maxHeartbeats 1000000 in
theorem rvalue_is (n : Int) (w : World) : Calls Tryz.prog 33 #[.int .i64 n] w fun e w' => e = .returned (.bool (valB n)) ∧ w = w' := by
  go_enter Tryz.func33, Tryz.ntmps33
  have hv : valB n = (decide (0 ≤ n) && decide (n ≤ 1099511627776)) := rfl
  rw [hv]
  clear hv
  by_cases h0 : 0 ≤ n
  case pos =>
    by_cases h1 : n ≤ 1099511627776
    case pos =>
      rw [show (decide (0 ≤ n) && decide (n ≤ 1099511627776)) = true by simp [h0, h1]]
      go_wp2_with fail
      go_ret
      exact ⟨rfl, rfl⟩
    case neg =>
      rw [show (decide (0 ≤ n) && decide (n ≤ 1099511627776)) = false by simp [h1]]
      go_wp2_with fail
      go_ret
      exact ⟨rfl, rfl⟩
  case neg =>
    rw [show (decide (0 ≤ n) && decide (n ≤ 1099511627776)) = false by simp [h0]]
    go_wp2_with fail
    go_ret
    exact ⟨rfl, rfl⟩
end Go.Proofs.YtjdkdhpippapmaaGreatDoor
namespace Go.Proofs.YtjdkdhpippapmaaGreatDoor
open Go.RowKit
set_option linter.unusedVariables false
set_option linter.unusedSimpArgs false

theorem valB_iff {n : Int} : valB n = true ↔ 0 ≤ n ∧ n ≤ 1099511627776 := by unfold valB; simp
theorem st_ok {zs : List Int} {n : Int} (hl : zs.length = 32) (hr : ∀ z ∈ zs, 0 ≤ z ∧ z ≤ 255) (hn : valB n = true) : ∀ a ∈ [Atom.text zs, .int n], a.ok := by
  have := valB_iff.1 hn
  intro x hx
  simp only [List.mem_cons, List.not_mem_nil, or_false] at hx
  rcases hx with rfl | rfl
  · exact ⟨by omega, hr⟩
  · exact ⟨by omega, by omega⟩
theorem st_tx {zs : List Int} {n : Int} (hl : zs.length = 32) (hok : ∀ a ∈ [Atom.text zs, .int n], a.ok) : txOk (encL [.text zs, .int n]) := by
  refine ⟨?_, encL_rng hok⟩
  have := encL_len hok (by simp)
  simp [lenA, Atom.sz] at this
  omega
set_option maxRecDepth 100000 in
set_option maxHeartbeats 4000000 in
theorem rscheck_no (key : Int) (zs : List Int) (n c s : Int) (w : World) (hl : Hid (zs.length = 32)) (hn : Hid (valB n = false)) :
    Calls Tryz.prog 14 #[.int .i64 key, .agg (stv zs n c s).toArray] w fun e w' => e = .returned (.bool false) ∧ Below w.heap.size w w' := by
  have S0 := Lib.hid (SBlk.box w 27 n c s hl.out)
  have B0 := Lib.hid (bel_alloc1 w (.cells (stv zs n c s).toArray 27))
  go_enter Tryz.func14, Tryz.ntmps14
  go_upto_region 1 with fail
  refine wp_region_any (by kernel_rfl) ?_
  change wpAny _ _ _ _ _ _ _ (World.drew _)
  generalize hWD : World.drew _ = W
  replace S0 := Lib.hid (show SBlk W w.heap.size 27 zs n c s by rw [← hWD]; exact S0.out)
  replace B0 := Lib.hid (show Below w.heap.size w W by rw [← hWD]; exact B0.out.drew)
  clear hWD
  have hCD : ∀ u, Ext W u → Ext W u := fun u hu => hu
  refine region_U (D := Ext W) (Ext W) [13, 14] (Ext.refl W) ?_
  refine anyU_takeD (i := 0) (v := .pointer (some ⟨w.heap.size, 32, none⟩)) 5 rfl rfl (by kernel_rfl) (by kernel_rfl) (by kernel_rfl) (fun _ _ _ h => h) (by kernel_rfl) (Ext.stable _) hCD (yieldsU_val rfl (fun u hu => by go_simp)) ?_
  refine anyU_takeD (i := 1) (v := .int .i64 n) 6 rfl rfl (by kernel_rfl) (by kernel_rfl) (by kernel_rfl) (fun _ _ _ h => h) (by kernel_rfl) (Ext.stable _) hCD (yieldsU_val rfl (fun u hu => by have cn := (S0.out.bel hu).cell; go_simp)) ?_
  refine anyU_takeD (i := 2) (v := .bool false) 7 rfl rfl (by kernel_rfl) (by kernel_rfl) (by kernel_rfl) (fun _ _ _ h => h) (by kernel_rfl) (Ext.stable _) hCD (yieldsU_call rfl 33 _ _ rfl #[.int .i64 n] (by simp [Act.eval, Act.put]) (fun u => by go_simp) (fun u hu => by have h := rvalue_is n u; rw [hn.out] at h; exact h.mono fun q w' hq => ⟨hq.1, hq.2 ▸ Below.refl _ u⟩)) ?_
  refine anyU_takeD (i := 3) (v := .bool false) 8 rfl rfl (by kernel_rfl) (by kernel_rfl) (by kernel_rfl) (fun _ _ _ h => h) (by kernel_rfl) (Ext.stable _) hCD (yieldsU_val rfl (fun u hu => by go_simp)) ?_
  refine anyU_takeD (i := 4) (v := undef) 9 rfl rfl (by kernel_rfl) (by kernel_rfl) (by kernel_rfl) (fun _ _ _ h => h) (by kernel_rfl) (Ext.stable _) hCD (.inr ⟨by rfl, rfl⟩) ?_
  refine anyU_takeD (i := 5) (v := undef) 10 rfl rfl (by kernel_rfl) (by kernel_rfl) (by kernel_rfl) (fun _ _ _ h => h) (by kernel_rfl) (Ext.stable _) hCD (.inr ⟨by rfl, rfl⟩) ?_
  refine anyU_takeD (i := 6) (v := undef) 11 rfl rfl (by kernel_rfl) (by kernel_rfl) (by kernel_rfl) (fun _ _ _ h => h) (by kernel_rfl) (Ext.stable _) hCD (.inr ⟨by rfl, rfl⟩) ?_
  simp only [Act.put, List.setIfInBounds_toArray, List.set_cons_succ, List.set_cons_zero]
  refine anyU_takeD (i := 7) (v := undef) 12 rfl rfl (by kernel_rfl) (by kernel_rfl) (by kernel_rfl) (fun _ _ _ h => h) (by kernel_rfl) (Ext.stable _) hCD (.inr ⟨by rfl, rfl⟩) ?_
  refine anyU_takeD (i := 8) (v := undef) 13 rfl rfl (by kernel_rfl) (by kernel_rfl) (by kernel_rfl) (fun _ _ _ h => h) (by kernel_rfl) (Ext.stable _) hCD (.inr ⟨by rfl, rfl⟩) ?_
  refine anyU_takeD (i := 9) (v := undef) 14 rfl rfl (by kernel_rfl) (by kernel_rfl) (by kernel_rfl) (fun _ _ _ h => h) (by kernel_rfl) (Ext.stable _) hCD (.inr ⟨by rfl, rfl⟩) ?_
  refine anyU_takeD (i := 10) (v := undef) 15 rfl rfl (by kernel_rfl) (by kernel_rfl) (by kernel_rfl) (fun _ _ _ h => h) (by kernel_rfl) (Ext.stable _) hCD (.inr ⟨by rfl, rfl⟩) ?_
  simp only [Act.put, List.setIfInBounds_toArray, List.set_cons_succ, List.set_cons_zero]
  refine anyU_takeD (i := 11) (v := undef) 16 rfl rfl (by kernel_rfl) (by kernel_rfl) (by kernel_rfl) (fun _ _ _ h => h) (by kernel_rfl) (Ext.stable _) hCD (.inr ⟨by rfl, rfl⟩) ?_
  refine anyU_takeD (i := 12) (v := undef) 17 rfl rfl (by kernel_rfl) (by kernel_rfl) (by kernel_rfl) (fun _ _ _ h => h) (by kernel_rfl) (Ext.stable _) hCD (.inr ⟨by rfl, rfl⟩) ?_
  refine anyU_tail 13 [14] rfl rfl (by decide) (by kernel_rfl) ?_
  intro u3 hu3
  simp only [Act.put, List.filterMap_cons, List.filterMap_nil, List.getElem?_cons_succ, List.getElem?_cons_zero]
  go_wp2_with fail
  go_ret
  exact ⟨rfl, bel_trans B0.out hu3⟩
set_option maxRecDepth 100000 in
set_option maxHeartbeats 4000000 in
theorem rscheck_is (key : Int) (zs : List Int) (n c s : Int) (w : World) (hl : Hid (zs.length = 32)) (vb : Bool) (hn : Hid (valB n = true)) (hok : Hid (∀ a ∈ [Atom.text zs, .int n], a.ok)) (htx : Hid (txOk (encL [.text zs, .int n]))) (hv : Hid (IsVer key (encL [.text zs, .int n]) c s vb)) :
    Calls Tryz.prog 14 #[.int .i64 key, .agg (stv zs n c s).toArray] w fun e w' => e = .returned (.bool vb) ∧ Below w.heap.size w w' := by
  have S0 := Lib.hid (SBlk.box w 27 n c s hl.out)
  have B0 := Lib.hid (bel_alloc1 w (.cells (stv zs n c s).toArray 27))
  go_enter Tryz.func14, Tryz.ntmps14
  go_upto_region 1 with fail
  refine wp_region_any (by kernel_rfl) ?_
  change wpAny _ _ _ _ _ _ _ (World.drew _)
  generalize hWD : World.drew _ = W
  replace S0 := Lib.hid (show SBlk W w.heap.size 27 zs n c s by rw [← hWD]; exact S0.out)
  replace B0 := Lib.hid (show Below w.heap.size w W by rw [← hWD]; exact B0.out.drew)
  clear hWD
  have hCD : ∀ u, Ext W u → Ext W u := fun u hu => hu
  refine region_U (D := Ext W) (Ext W) [12, 13, 14] (Ext.refl W) ?_
  refine anyU_takeD (i := 0) (v := .pointer (some ⟨w.heap.size, 32, none⟩)) 5 rfl rfl (by kernel_rfl) (by kernel_rfl) (by kernel_rfl) (fun _ _ _ h => h) (by kernel_rfl) (Ext.stable _) hCD (yieldsU_val rfl (fun u hu => by go_simp)) ?_
  refine anyU_takeD (i := 1) (v := .int .i64 n) 6 rfl rfl (by kernel_rfl) (by kernel_rfl) (by kernel_rfl) (fun _ _ _ h => h) (by kernel_rfl) (Ext.stable _) hCD (yieldsU_val rfl (fun u hu => by have cn := (S0.out.bel hu).cell; go_simp)) ?_
  refine anyU_takeD (i := 2) (v := .bool true) 7 rfl rfl (by kernel_rfl) (by kernel_rfl) (by kernel_rfl) (fun _ _ _ h => h) (by kernel_rfl) (Ext.stable _) hCD (yieldsU_call rfl 33 _ _ rfl #[.int .i64 n] (by simp [Act.eval, Act.put]) (fun u => by go_simp) (fun u hu => by have h := rvalue_is n u; rw [hn.out] at h; exact h.mono fun q w' hq => ⟨hq.1, hq.2 ▸ Below.refl _ u⟩)) ?_
  refine anyU_takeD (i := 3) (v := .bool true) 8 rfl rfl (by kernel_rfl) (by kernel_rfl) (by kernel_rfl) (fun _ _ _ h => h) (by kernel_rfl) (Ext.stable _) hCD (yieldsU_val rfl (fun u hu => by go_simp)) ?_
  refine anyU_takeD (i := 4) (v := .int .i64 key) 9 rfl rfl (by kernel_rfl) (by kernel_rfl) (by kernel_rfl) (fun _ _ _ h => h) (by kernel_rfl) (Ext.stable _) hCD (yieldsU_val rfl (fun u hu => by go_simp)) ?_
  simp only [Act.put, List.setIfInBounds_toArray, List.set_cons_succ, List.set_cons_zero]
  refine anyU_takeD (i := 5) (v := .pointer (some ⟨w.heap.size, 0, none⟩)) 10 rfl rfl (by kernel_rfl) (by kernel_rfl) (by kernel_rfl) (fun _ _ _ h => h) (by kernel_rfl) (Ext.stable _) hCD (yieldsU_val rfl (fun u hu => by go_simp)) ?_
  refine anyU_takeD (i := 6) (v := .agg (bv zs).toArray) 11 rfl rfl (by kernel_rfl) (by kernel_rfl) (by kernel_rfl) (fun _ _ _ h => h) (by kernel_rfl) (Ext.stable _) hCD (yieldsU_of_C (yields_loadM (by rfl) (.tmp 10) rfl w.heap.size 0 rfl zs hl.out (fun u hu => (S0.out.bel hu).bytes))) ?_
  refine anyU_takeD (i := 7) (v := .pointer (some ⟨w.heap.size, 32, none⟩)) 12 rfl rfl (by kernel_rfl) (by kernel_rfl) (by kernel_rfl) (fun _ _ _ h => h) (by kernel_rfl) (Ext.stable _) hCD (yieldsU_val rfl (fun u hu => by go_simp)) ?_
  refine anyU_takeD (i := 8) (v := .int .i64 n) 13 rfl rfl (by kernel_rfl) (by kernel_rfl) (by kernel_rfl) (fun _ _ _ h => h) (by kernel_rfl) (Ext.stable _) hCD (yieldsU_val rfl (fun u hu => by have cn := (S0.out.bel hu).cell; go_simp)) ?_
  simp only [Act.put, List.setIfInBounds_toArray, List.set_cons_succ, List.set_cons_zero]
  refine anyU_takeD (i := 10) (v := .pointer (some ⟨w.heap.size, 33, none⟩)) 15 rfl rfl (by kernel_rfl) (by kernel_rfl) (by kernel_rfl) (fun _ _ _ h => h) (by kernel_rfl) (Ext.stable _) hCD (yieldsU_val rfl (fun u hu => by go_simp)) ?_
  refine anyU_takeD (i := 11) (v := .agg #[.int .i64 c, .int .i64 s]) 16 rfl rfl (by kernel_rfl) (by kernel_rfl) (by kernel_rfl) (fun _ _ _ h => h) (by kernel_rfl) (Ext.stable _) hCD (yieldsU_val rfl (fun u hu => by obtain ⟨c33, c34⟩ := (S0.out.bel hu).sig; go_simp)) ?_
  simp only [Act.put, List.setIfInBounds_toArray, List.set_cons_succ, List.set_cons_zero]
  refine anyU_one 9 3 _ rfl rfl (by kernel_rfl) ?_
  intro u1 hu
  go_wp2_with (go_at_call 26; refine (rtext_is zs n u1 hl hok).mono ?_; rintro e u2 ⟨v2, rfl, o2, hb⟩; have O2 := Lib.hid o2; have B2 := Lib.hid (bel_trans hu hb); clear o2 hb)
  change ∃ C' : World → Prop, _ ∧ _ ∧ _ ∧ anyU _ _ _ _ _ _ 3 _ _ _
  obtain ⟨p, cp, hv2, hz2, _, _, _⟩ := own8_src O2.out
  subst v2
  have Z2 := Lib.hid hz2
  clear hz2 O2 hu
  refine anchorF (fun z => Ext W z ∧ SrcV z p (encL [.text zs, .int n]).length cp (encL [.text zs, .int n])) (fun z hz => hz.1) ((Ext.stable W).and (fun y z h k => h.below k)) ⟨B2.out, Z2.out⟩ ?_
  (try simp only [Act.put])
  refine anyU_tail 12 [13, 14] rfl rfl (by decide) (by kernel_rfl) ?_
  intro u3 hu3
  simp only [Act.put, List.filterMap_cons, List.filterMap_nil, List.getElem?_cons_succ, List.getElem?_cons_zero]
  have Z3 := Lib.hid hu3.2
  have B3 := Lib.hid (bel_trans B0.out hu3.1)
  clear hu3
  go_wp2_with (go_at_call 24; refine (rverify_is key c s p _ cp (encL [.text zs, .int n]) u3 htx (Lib.hid (.inl Z3.out)) vb hv).mono ?_; rintro e u4 ⟨rfl, hb⟩; have B4 := Lib.hid (bel_trans B3.out hb); clear hb)
  cases vb
  all_goals
    go_wp2_with fail
    go_ret
    exact ⟨rfl, B4.out⟩
set_option maxRecDepth 100000 in
set_option maxHeartbeats 4000000 in
theorem rsask_no (key r : Int) (zs : List Int) (n u v : Int) (w : World) (hl : Hid (zs.length = 32)) (hn : Hid (valB n = false)) :
    Calls Tryz.prog 10 #[.int .i64 key, .int .i64 r, .agg (bv zs).toArray, .int .i64 n, .int .i64 u, .int .i64 v] w fun e w' => e = .returned (.tuple #[.int .i64 0, .int .i64 370]) ∧ Below w.heap.size w w' := by
  have D0 := Lib.hid (Dg.box w hl.out)
  have B0 := Lib.hid (bel_alloc1 w (.cells (bv zs).toArray 23))
  go_enter Tryz.func10, Tryz.ntmps10
  go_wp2_with (go_at_call 33; refine (rvalue_is n _).mono ?_; rintro e w' ⟨rfl, rfl⟩; rw [hn.out])
  go_ret2
  exact ⟨rfl, B0.out⟩
set_option maxRecDepth 100000 in
set_option maxHeartbeats 4000000 in
theorem rsask_el (key r : Int) (zs : List Int) (n u v : Int) (w : World) (hl : Hid (zs.length = 32)) (hn : Hid (valB n = true)) (hok : Hid (∀ a ∈ [Atom.text zs, .int n], a.ok)) (h : Hid ((elB key && elB r) = false)) :
    Calls Tryz.prog 10 #[.int .i64 key, .int .i64 r, .agg (bv zs).toArray, .int .i64 n, .int .i64 u, .int .i64 v] w fun e w' => e = .returned (.tuple #[.int .i64 0, .int .i64 90]) ∧ Below w.heap.size w w' := by
  have D0 := Lib.hid (Dg.box w hl.out)
  have B0 := Lib.hid (bel_alloc1 w (.cells (bv zs).toArray 23))
  go_enter Tryz.func10, Tryz.ntmps10
  go_wp2_with (first
    | (go_at_call 33; refine (rvalue_is n _).mono ?_; rintro e w' ⟨rfl, rfl⟩; rw [hn.out])
    | (refine list_loadD (by rfl) (.tmp 8) rfl w.heap.size rfl zs D0.out ?_)
    | (go_at_call 26; refine (rtext_is zs n _ hl hok).mono ?_; rintro e w1 ⟨v1, rfl, o1, hb⟩; obtain ⟨p1, c1, rfl, z1, _, _, _⟩ := own8_src o1; have Z1 := Lib.hid z1; have B1 := Lib.hid (bel_trans B0.out hb); clear o1 hb z1)
    | (go_at_call 34; refine (rask_no key r u v p1 _ c1 _ h).mono ?_; rintro e w2 ⟨rfl, hb⟩; have B2 := Lib.hid (bel_trans B1.out hb); clear hb))
  go_ret2
  exact ⟨rfl, B2.out⟩
set_option maxRecDepth 100000 in
set_option maxHeartbeats 4000000 in
theorem rsask_yes (key r : Int) (zs : List Int) (n u v : Int) (w : World) (hl : Hid (zs.length = 32)) (hn : Hid (valB n = true)) (hok : Hid (∀ a ∈ [Atom.text zs, .int n], a.ok)) (htx : Hid (txOk (encL [.text zs, .int n]))) (hkey : Hid (elB key = true)) (hr : Hid (elB r = true)) (pt h : Int) (hp : Hid (IsBp key r u v pt)) (hh : Hid (IsCh pt key (encL [.text zs, .int n]) h)) (a mv : Int) (hmv : Hid (modQ v = mv)) (ha : Hid ((h + mv) % 1073741789 = a)) :
    Calls Tryz.prog 10 #[.int .i64 key, .int .i64 r, .agg (bv zs).toArray, .int .i64 n, .int .i64 u, .int .i64 v] w fun e w' => e = .returned (.tuple #[.int .i64 a, .int .i64 0]) ∧ Below w.heap.size w w' := by
  have D0 := Lib.hid (Dg.box w hl.out)
  have B0 := Lib.hid (bel_alloc1 w (.cells (bv zs).toArray 23))
  go_enter Tryz.func10, Tryz.ntmps10
  go_wp2_with (first
    | (go_at_call 33; refine (rvalue_is n _).mono ?_; rintro e w' ⟨rfl, rfl⟩; rw [hn.out])
    | (refine list_loadD (by rfl) (.tmp 8) rfl w.heap.size rfl zs D0.out ?_)
    | (go_at_call 26; refine (rtext_is zs n _ hl hok).mono ?_; rintro e w1 ⟨v1, rfl, o1, hb⟩; obtain ⟨p1, c1, rfl, z1, _, _, _⟩ := own8_src o1; have Z1 := Lib.hid z1; have B1 := Lib.hid (bel_trans B0.out hb); clear o1 hb z1)
    | (go_at_call 34; refine (rask_yes key r u v pt h a mv p1 _ c1 (encL [.text zs, .int n]) _ hkey hr htx (Lib.hid (.inl Z1.out)) hp hh hmv ha).mono ?_; rintro e w2 ⟨rfl, hb⟩; have B2 := Lib.hid (bel_trans B1.out hb); clear hb))
  go_ret2
  exact ⟨rfl, B2.out⟩
set_option maxRecDepth 100000 in
set_option maxHeartbeats 4000000 in
theorem rstake_no (key r : Int) (zs : List Int) (n u v t : Int) (w : World) (hl : Hid (zs.length = 32)) (hn : Hid (valB n = false)) :
    Calls Tryz.prog 12 #[.int .i64 key, .int .i64 r, .agg (bv zs).toArray, .int .i64 n, .int .i64 u, .int .i64 v, .int .i64 t] w fun e w' => e = .returned (.tuple #[.agg (stv (List.replicate 32 0) 0 0 0).toArray, .int .i64 370]) ∧ Below w.heap.size w w' := by
  have DB := Lib.hid ((Dg.box w hl.out).alloc (.cells #[.int .u8 0, .int .u8 0, .int .u8 0, .int .u8 0, .int .u8 0, .int .u8 0, .int .u8 0, .int .u8 0, .int .u8 0, .int .u8 0, .int .u8 0, .int .u8 0, .int .u8 0, .int .u8 0, .int .u8 0, .int .u8 0, .int .u8 0, .int .u8 0, .int .u8 0, .int .u8 0, .int .u8 0, .int .u8 0, .int .u8 0, .int .u8 0, .int .u8 0, .int .u8 0, .int .u8 0, .int .u8 0, .int .u8 0, .int .u8 0, .int .u8 0, .int .u8 0, .int .i64 0, .int .i64 0, .int .i64 0] 27))
  have RB := Lib.hid (show SBlk ((w.alloc (.cells (bv zs).toArray 23)).alloc (.cells #[.int .u8 0, .int .u8 0, .int .u8 0, .int .u8 0, .int .u8 0, .int .u8 0, .int .u8 0, .int .u8 0, .int .u8 0, .int .u8 0, .int .u8 0, .int .u8 0, .int .u8 0, .int .u8 0, .int .u8 0, .int .u8 0, .int .u8 0, .int .u8 0, .int .u8 0, .int .u8 0, .int .u8 0, .int .u8 0, .int .u8 0, .int .u8 0, .int .u8 0, .int .u8 0, .int .u8 0, .int .u8 0, .int .u8 0, .int .u8 0, .int .u8 0, .int .u8 0, .int .i64 0, .int .i64 0, .int .i64 0] 27)) (w.heap.size + 1) 27 (List.replicate 32 0) 0 0 0 by have := SBlk.new (w.alloc (.cells (bv zs).toArray 23)) 27; simpa using this)
  have BW := Lib.hid (show Below w.heap.size w ((w.alloc (.cells (bv zs).toArray 23)).alloc (.cells #[.int .u8 0, .int .u8 0, .int .u8 0, .int .u8 0, .int .u8 0, .int .u8 0, .int .u8 0, .int .u8 0, .int .u8 0, .int .u8 0, .int .u8 0, .int .u8 0, .int .u8 0, .int .u8 0, .int .u8 0, .int .u8 0, .int .u8 0, .int .u8 0, .int .u8 0, .int .u8 0, .int .u8 0, .int .u8 0, .int .u8 0, .int .u8 0, .int .u8 0, .int .u8 0, .int .u8 0, .int .u8 0, .int .u8 0, .int .u8 0, .int .u8 0, .int .u8 0, .int .i64 0, .int .i64 0, .int .i64 0] 27)) from (bel_alloc1 w _).alloc (by simp) _)
  go_enter Tryz.func12, Tryz.ntmps12
  go_wp2_with (first
    | (go_at_call 33; refine (rvalue_is n _).mono ?_; rintro e w' ⟨rfl, rfl⟩; rw [hn.out])
    | (refine list_storeApi rfl (.tmp 14) (.tmp 21) rfl (w.heap.size + 1) rfl (List.replicate 32 0) 0 0 0 rfl rfl 27 _ _ _ _ RB.out ?_))
  intro w4 q4 k4
  have Q4 := Lib.hid q4
  have B4 := Lib.hid (BW.out.trans (k4.below (by omega)))
  clear q4 k4
  go_wp2_with fail
  refine bodyPost_ret (v := .tuple #[.agg (stv (List.replicate 32 0) 0 0 0).toArray, .int .i64 370]) (results_cell_tmp (a := ⟨w.heap.size + 1, 0, none⟩) Tryz.results12 _ rfl (load_st Q4.out)) rfl ⟨rfl, B4.out⟩
set_option maxRecDepth 100000 in
set_option maxHeartbeats 4000000 in
theorem rstake_el (key r : Int) (zs : List Int) (n u v t : Int) (w : World) (hl : Hid (zs.length = 32)) (hn : Hid (valB n = true)) (hok : Hid (∀ a ∈ [Atom.text zs, .int n], a.ok)) (h : Hid ((elB key && elB r) = false)) :
    Calls Tryz.prog 12 #[.int .i64 key, .int .i64 r, .agg (bv zs).toArray, .int .i64 n, .int .i64 u, .int .i64 v, .int .i64 t] w fun e w' => e = .returned (.tuple #[.agg (stv (List.replicate 32 0) 0 0 0).toArray, .int .i64 90]) ∧ Below w.heap.size w w' := by
  have DB := Lib.hid ((Dg.box w hl.out).alloc (.cells #[.int .u8 0, .int .u8 0, .int .u8 0, .int .u8 0, .int .u8 0, .int .u8 0, .int .u8 0, .int .u8 0, .int .u8 0, .int .u8 0, .int .u8 0, .int .u8 0, .int .u8 0, .int .u8 0, .int .u8 0, .int .u8 0, .int .u8 0, .int .u8 0, .int .u8 0, .int .u8 0, .int .u8 0, .int .u8 0, .int .u8 0, .int .u8 0, .int .u8 0, .int .u8 0, .int .u8 0, .int .u8 0, .int .u8 0, .int .u8 0, .int .u8 0, .int .u8 0, .int .i64 0, .int .i64 0, .int .i64 0] 27))
  have RB := Lib.hid (show SBlk ((w.alloc (.cells (bv zs).toArray 23)).alloc (.cells #[.int .u8 0, .int .u8 0, .int .u8 0, .int .u8 0, .int .u8 0, .int .u8 0, .int .u8 0, .int .u8 0, .int .u8 0, .int .u8 0, .int .u8 0, .int .u8 0, .int .u8 0, .int .u8 0, .int .u8 0, .int .u8 0, .int .u8 0, .int .u8 0, .int .u8 0, .int .u8 0, .int .u8 0, .int .u8 0, .int .u8 0, .int .u8 0, .int .u8 0, .int .u8 0, .int .u8 0, .int .u8 0, .int .u8 0, .int .u8 0, .int .u8 0, .int .u8 0, .int .i64 0, .int .i64 0, .int .i64 0] 27)) (w.heap.size + 1) 27 (List.replicate 32 0) 0 0 0 by have := SBlk.new (w.alloc (.cells (bv zs).toArray 23)) 27; simpa using this)
  have BW := Lib.hid (show Below w.heap.size w ((w.alloc (.cells (bv zs).toArray 23)).alloc (.cells #[.int .u8 0, .int .u8 0, .int .u8 0, .int .u8 0, .int .u8 0, .int .u8 0, .int .u8 0, .int .u8 0, .int .u8 0, .int .u8 0, .int .u8 0, .int .u8 0, .int .u8 0, .int .u8 0, .int .u8 0, .int .u8 0, .int .u8 0, .int .u8 0, .int .u8 0, .int .u8 0, .int .u8 0, .int .u8 0, .int .u8 0, .int .u8 0, .int .u8 0, .int .u8 0, .int .u8 0, .int .u8 0, .int .u8 0, .int .u8 0, .int .u8 0, .int .u8 0, .int .i64 0, .int .i64 0, .int .i64 0] 27)) from (bel_alloc1 w _).alloc (by simp) _)
  go_enter Tryz.func12, Tryz.ntmps12
  go_upto_region 4 with (first
    | (go_at_call 33; refine (rvalue_is n _).mono ?_; rintro e w' ⟨rfl, rfl⟩; rw [hn.out])
    | (refine list_loadD (by rfl) (.tmp 9) rfl w.heap.size rfl zs DB.out ?_)
    | (go_at_call 26; refine (rtext_is zs n _ hl hok).mono ?_; rintro e w1 ⟨v1, rfl, o1, hb⟩; obtain ⟨p1, c1, rfl, z1, _, _, _⟩ := own8_src o1; have Z1 := Lib.hid z1; have B1 := Lib.hid (bel_trans BW.out hb); have W10 := Lib.hid hb; clear o1 hb z1)
    | (go_at_call 36; refine (rfinish_no key r u v t p1 _ c1 _ h).mono ?_; rintro e w2 ⟨rfl, hb⟩; have B2 := Lib.hid (bel_trans B1.out hb); have W20 := Lib.hid (bel_trans W10.out hb); clear hb))
  generalize hW3 : World.alloc w2 _ = W3
  have B3 := Lib.hid (show Below w.heap.size w W3 by rw [← hW3]; exact B2.out.alloc B2.out.size _)
  have SG := Lib.hid (show Blk W3 w2.heap.size #[.int .i64 0, .int .i64 0] 25 by rw [← hW3]; exact Blk.new w2 _ _)
  have KB := Lib.hid (show Below w2.heap.size w2 W3 by rw [← hW3]; exact bel_alloc1 w2 _)
  have KW := Lib.hid (show Below ((w.alloc (.cells (bv zs).toArray 23)).alloc (.cells #[.int .u8 0, .int .u8 0, .int .u8 0, .int .u8 0, .int .u8 0, .int .u8 0, .int .u8 0, .int .u8 0, .int .u8 0, .int .u8 0, .int .u8 0, .int .u8 0, .int .u8 0, .int .u8 0, .int .u8 0, .int .u8 0, .int .u8 0, .int .u8 0, .int .u8 0, .int .u8 0, .int .u8 0, .int .u8 0, .int .u8 0, .int .u8 0, .int .u8 0, .int .u8 0, .int .u8 0, .int .u8 0, .int .u8 0, .int .u8 0, .int .u8 0, .int .u8 0, .int .i64 0, .int .i64 0, .int .i64 0] 27)).heap.size ((w.alloc (.cells (bv zs).toArray 23)).alloc (.cells #[.int .u8 0, .int .u8 0, .int .u8 0, .int .u8 0, .int .u8 0, .int .u8 0, .int .u8 0, .int .u8 0, .int .u8 0, .int .u8 0, .int .u8 0, .int .u8 0, .int .u8 0, .int .u8 0, .int .u8 0, .int .u8 0, .int .u8 0, .int .u8 0, .int .u8 0, .int .u8 0, .int .u8 0, .int .u8 0, .int .u8 0, .int .u8 0, .int .u8 0, .int .u8 0, .int .u8 0, .int .u8 0, .int .u8 0, .int .u8 0, .int .u8 0, .int .u8 0, .int .i64 0, .int .i64 0, .int .i64 0] 27)) W3 from bel_trans W20.out KB.out)
  have D3 := Lib.hid (DB.out.bel KW.out)
  have R3 := Lib.hid (RB.out.bel KW.out)
  clear hW3 KB KW W20 DB RB
  go_wp2_with (first
    | (refine list_storeApi rfl (.tmp 14) (.tmp 36) rfl (w.heap.size + 1) rfl (List.replicate 32 0) 0 0 0 rfl rfl 27 _ _ _ _ R3.out ?_))
  intro w4 q4 k4
  have Q4 := Lib.hid q4
  have B4 := Lib.hid (B3.out.trans (k4.below (by omega)))
  clear q4 k4
  go_wp2_with fail
  refine bodyPost_ret (v := .tuple #[.agg (stv (List.replicate 32 0) 0 0 0).toArray, .int .i64 90]) (results_cell_tmp (a := ⟨w.heap.size + 1, 0, none⟩) Tryz.results12 _ rfl (load_st Q4.out)) rfl ⟨rfl, B4.out⟩
set_option maxRecDepth 100000 in
set_option maxHeartbeats 4000000 in
theorem rstake_bad (key r : Int) (zs : List Int) (n u v t : Int) (w : World) (hl : Hid (zs.length = 32)) (hn : Hid (valB n = true)) (hok : Hid (∀ a ∈ [Atom.text zs, .int n], a.ok)) (htx : Hid (txOk (encL [.text zs, .int n]))) (hkey : Hid (elB key = true)) (hr : Hid (elB r = true)) (pt h : Int) (hp : Hid (IsBp key r u v pt)) (hh : Hid (IsCh pt key (encL [.text zs, .int n]) h)) (S ms mu : Int) (HMS : Hid (modQ t = ms)) (HMU : Hid (modQ u = mu)) (HS : Hid ((ms + mu) % 1073741789 = S)) (hv : Hid (IsVer key (encL [.text zs, .int n]) h S false)) :
    Calls Tryz.prog 12 #[.int .i64 key, .int .i64 r, .agg (bv zs).toArray, .int .i64 n, .int .i64 u, .int .i64 v, .int .i64 t] w fun e w' => e = .returned (.tuple #[.agg (stv (List.replicate 32 0) 0 0 0).toArray, .int .i64 150]) ∧ Below w.heap.size w w' := by
  have DB := Lib.hid ((Dg.box w hl.out).alloc (.cells #[.int .u8 0, .int .u8 0, .int .u8 0, .int .u8 0, .int .u8 0, .int .u8 0, .int .u8 0, .int .u8 0, .int .u8 0, .int .u8 0, .int .u8 0, .int .u8 0, .int .u8 0, .int .u8 0, .int .u8 0, .int .u8 0, .int .u8 0, .int .u8 0, .int .u8 0, .int .u8 0, .int .u8 0, .int .u8 0, .int .u8 0, .int .u8 0, .int .u8 0, .int .u8 0, .int .u8 0, .int .u8 0, .int .u8 0, .int .u8 0, .int .u8 0, .int .u8 0, .int .i64 0, .int .i64 0, .int .i64 0] 27))
  have RB := Lib.hid (show SBlk ((w.alloc (.cells (bv zs).toArray 23)).alloc (.cells #[.int .u8 0, .int .u8 0, .int .u8 0, .int .u8 0, .int .u8 0, .int .u8 0, .int .u8 0, .int .u8 0, .int .u8 0, .int .u8 0, .int .u8 0, .int .u8 0, .int .u8 0, .int .u8 0, .int .u8 0, .int .u8 0, .int .u8 0, .int .u8 0, .int .u8 0, .int .u8 0, .int .u8 0, .int .u8 0, .int .u8 0, .int .u8 0, .int .u8 0, .int .u8 0, .int .u8 0, .int .u8 0, .int .u8 0, .int .u8 0, .int .u8 0, .int .u8 0, .int .i64 0, .int .i64 0, .int .i64 0] 27)) (w.heap.size + 1) 27 (List.replicate 32 0) 0 0 0 by have := SBlk.new (w.alloc (.cells (bv zs).toArray 23)) 27; simpa using this)
  have BW := Lib.hid (show Below w.heap.size w ((w.alloc (.cells (bv zs).toArray 23)).alloc (.cells #[.int .u8 0, .int .u8 0, .int .u8 0, .int .u8 0, .int .u8 0, .int .u8 0, .int .u8 0, .int .u8 0, .int .u8 0, .int .u8 0, .int .u8 0, .int .u8 0, .int .u8 0, .int .u8 0, .int .u8 0, .int .u8 0, .int .u8 0, .int .u8 0, .int .u8 0, .int .u8 0, .int .u8 0, .int .u8 0, .int .u8 0, .int .u8 0, .int .u8 0, .int .u8 0, .int .u8 0, .int .u8 0, .int .u8 0, .int .u8 0, .int .u8 0, .int .u8 0, .int .i64 0, .int .i64 0, .int .i64 0] 27)) from (bel_alloc1 w _).alloc (by simp) _)
  go_enter Tryz.func12, Tryz.ntmps12
  go_upto_region 4 with (first
    | (go_at_call 33; refine (rvalue_is n _).mono ?_; rintro e w' ⟨rfl, rfl⟩; rw [hn.out])
    | (refine list_loadD (by rfl) (.tmp 9) rfl w.heap.size rfl zs DB.out ?_)
    | (go_at_call 26; refine (rtext_is zs n _ hl hok).mono ?_; rintro e w1 ⟨v1, rfl, o1, hb⟩; obtain ⟨p1, c1, rfl, z1, _, _, _⟩ := own8_src o1; have Z1 := Lib.hid z1; have B1 := Lib.hid (bel_trans BW.out hb); have W10 := Lib.hid hb; clear o1 hb z1)
    | (go_at_call 36; refine (rfinish_bad key r u v t pt h S ms mu p1 _ c1 (encL [.text zs, .int n]) _ hkey hr htx (Lib.hid (.inl Z1.out)) hp hh HMS HMU HS hv).mono ?_; rintro e w2 ⟨rfl, hb⟩; have B2 := Lib.hid (bel_trans B1.out hb); have W20 := Lib.hid (bel_trans W10.out hb); clear hb))
  generalize hW3 : World.alloc w2 _ = W3
  have B3 := Lib.hid (show Below w.heap.size w W3 by rw [← hW3]; exact B2.out.alloc B2.out.size _)
  have SG := Lib.hid (show Blk W3 w2.heap.size #[.int .i64 0, .int .i64 0] 25 by rw [← hW3]; exact Blk.new w2 _ _)
  have KB := Lib.hid (show Below w2.heap.size w2 W3 by rw [← hW3]; exact bel_alloc1 w2 _)
  have KW := Lib.hid (show Below ((w.alloc (.cells (bv zs).toArray 23)).alloc (.cells #[.int .u8 0, .int .u8 0, .int .u8 0, .int .u8 0, .int .u8 0, .int .u8 0, .int .u8 0, .int .u8 0, .int .u8 0, .int .u8 0, .int .u8 0, .int .u8 0, .int .u8 0, .int .u8 0, .int .u8 0, .int .u8 0, .int .u8 0, .int .u8 0, .int .u8 0, .int .u8 0, .int .u8 0, .int .u8 0, .int .u8 0, .int .u8 0, .int .u8 0, .int .u8 0, .int .u8 0, .int .u8 0, .int .u8 0, .int .u8 0, .int .u8 0, .int .u8 0, .int .i64 0, .int .i64 0, .int .i64 0] 27)).heap.size ((w.alloc (.cells (bv zs).toArray 23)).alloc (.cells #[.int .u8 0, .int .u8 0, .int .u8 0, .int .u8 0, .int .u8 0, .int .u8 0, .int .u8 0, .int .u8 0, .int .u8 0, .int .u8 0, .int .u8 0, .int .u8 0, .int .u8 0, .int .u8 0, .int .u8 0, .int .u8 0, .int .u8 0, .int .u8 0, .int .u8 0, .int .u8 0, .int .u8 0, .int .u8 0, .int .u8 0, .int .u8 0, .int .u8 0, .int .u8 0, .int .u8 0, .int .u8 0, .int .u8 0, .int .u8 0, .int .u8 0, .int .u8 0, .int .i64 0, .int .i64 0, .int .i64 0] 27)) W3 from bel_trans W20.out KB.out)
  have D3 := Lib.hid (DB.out.bel KW.out)
  have R3 := Lib.hid (RB.out.bel KW.out)
  clear hW3 KB KW W20 DB RB
  go_wp2_with (first
    | (refine list_storeApi rfl (.tmp 14) (.tmp 36) rfl (w.heap.size + 1) rfl (List.replicate 32 0) 0 0 0 rfl rfl 27 _ _ _ _ R3.out ?_))
  intro w4 q4 k4
  have Q4 := Lib.hid q4
  have B4 := Lib.hid (B3.out.trans (k4.below (by omega)))
  clear q4 k4
  go_wp2_with fail
  refine bodyPost_ret (v := .tuple #[.agg (stv (List.replicate 32 0) 0 0 0).toArray, .int .i64 150]) (results_cell_tmp (a := ⟨w.heap.size + 1, 0, none⟩) Tryz.results12 _ rfl (load_st Q4.out)) rfl ⟨rfl, B4.out⟩
set_option maxRecDepth 100000 in
set_option maxHeartbeats 4000000 in
theorem rstake_yes (key r : Int) (zs : List Int) (n u v t : Int) (w : World) (hl : Hid (zs.length = 32)) (hn : Hid (valB n = true)) (hok : Hid (∀ a ∈ [Atom.text zs, .int n], a.ok)) (htx : Hid (txOk (encL [.text zs, .int n]))) (hkey : Hid (elB key = true)) (hr : Hid (elB r = true)) (pt h : Int) (hp : Hid (IsBp key r u v pt)) (hh : Hid (IsCh pt key (encL [.text zs, .int n]) h)) (S ms mu : Int) (HMS : Hid (modQ t = ms)) (HMU : Hid (modQ u = mu)) (HS : Hid ((ms + mu) % 1073741789 = S)) (hv : Hid (IsVer key (encL [.text zs, .int n]) h S true)) :
    Calls Tryz.prog 12 #[.int .i64 key, .int .i64 r, .agg (bv zs).toArray, .int .i64 n, .int .i64 u, .int .i64 v, .int .i64 t] w fun e w' => e = .returned (.tuple #[.agg (stv zs n h S).toArray, .int .i64 0]) ∧ Below w.heap.size w w' := by
  have DB := Lib.hid ((Dg.box w hl.out).alloc (.cells #[.int .u8 0, .int .u8 0, .int .u8 0, .int .u8 0, .int .u8 0, .int .u8 0, .int .u8 0, .int .u8 0, .int .u8 0, .int .u8 0, .int .u8 0, .int .u8 0, .int .u8 0, .int .u8 0, .int .u8 0, .int .u8 0, .int .u8 0, .int .u8 0, .int .u8 0, .int .u8 0, .int .u8 0, .int .u8 0, .int .u8 0, .int .u8 0, .int .u8 0, .int .u8 0, .int .u8 0, .int .u8 0, .int .u8 0, .int .u8 0, .int .u8 0, .int .u8 0, .int .i64 0, .int .i64 0, .int .i64 0] 27))
  have RB := Lib.hid (show SBlk ((w.alloc (.cells (bv zs).toArray 23)).alloc (.cells #[.int .u8 0, .int .u8 0, .int .u8 0, .int .u8 0, .int .u8 0, .int .u8 0, .int .u8 0, .int .u8 0, .int .u8 0, .int .u8 0, .int .u8 0, .int .u8 0, .int .u8 0, .int .u8 0, .int .u8 0, .int .u8 0, .int .u8 0, .int .u8 0, .int .u8 0, .int .u8 0, .int .u8 0, .int .u8 0, .int .u8 0, .int .u8 0, .int .u8 0, .int .u8 0, .int .u8 0, .int .u8 0, .int .u8 0, .int .u8 0, .int .u8 0, .int .u8 0, .int .i64 0, .int .i64 0, .int .i64 0] 27)) (w.heap.size + 1) 27 (List.replicate 32 0) 0 0 0 by have := SBlk.new (w.alloc (.cells (bv zs).toArray 23)) 27; simpa using this)
  have BW := Lib.hid (show Below w.heap.size w ((w.alloc (.cells (bv zs).toArray 23)).alloc (.cells #[.int .u8 0, .int .u8 0, .int .u8 0, .int .u8 0, .int .u8 0, .int .u8 0, .int .u8 0, .int .u8 0, .int .u8 0, .int .u8 0, .int .u8 0, .int .u8 0, .int .u8 0, .int .u8 0, .int .u8 0, .int .u8 0, .int .u8 0, .int .u8 0, .int .u8 0, .int .u8 0, .int .u8 0, .int .u8 0, .int .u8 0, .int .u8 0, .int .u8 0, .int .u8 0, .int .u8 0, .int .u8 0, .int .u8 0, .int .u8 0, .int .u8 0, .int .u8 0, .int .i64 0, .int .i64 0, .int .i64 0] 27)) from (bel_alloc1 w _).alloc (by simp) _)
  go_enter Tryz.func12, Tryz.ntmps12
  go_upto_region 4 with (first
    | (go_at_call 33; refine (rvalue_is n _).mono ?_; rintro e w' ⟨rfl, rfl⟩; rw [hn.out])
    | (refine list_loadD (by rfl) (.tmp 9) rfl w.heap.size rfl zs DB.out ?_)
    | (go_at_call 26; refine (rtext_is zs n _ hl hok).mono ?_; rintro e w1 ⟨v1, rfl, o1, hb⟩; obtain ⟨p1, c1, rfl, z1, _, _, _⟩ := own8_src o1; have Z1 := Lib.hid z1; have B1 := Lib.hid (bel_trans BW.out hb); have W10 := Lib.hid hb; clear o1 hb z1)
    | (go_at_call 36; refine (rfinish_yes key r u v t pt h S ms mu p1 _ c1 (encL [.text zs, .int n]) _ hkey hr htx (Lib.hid (.inl Z1.out)) hp hh HMS HMU HS hv).mono ?_; rintro e w2 ⟨rfl, hb⟩; have B2 := Lib.hid (bel_trans B1.out hb); have W20 := Lib.hid (bel_trans W10.out hb); clear hb))
  generalize hW3 : World.alloc w2 _ = W3
  have B3 := Lib.hid (show Below w.heap.size w W3 by rw [← hW3]; exact B2.out.alloc B2.out.size _)
  have SG := Lib.hid (show Blk W3 w2.heap.size #[.int .i64 h, .int .i64 S] 25 by rw [← hW3]; exact Blk.new w2 _ _)
  have KB := Lib.hid (show Below w2.heap.size w2 W3 by rw [← hW3]; exact bel_alloc1 w2 _)
  have KW := Lib.hid (show Below ((w.alloc (.cells (bv zs).toArray 23)).alloc (.cells #[.int .u8 0, .int .u8 0, .int .u8 0, .int .u8 0, .int .u8 0, .int .u8 0, .int .u8 0, .int .u8 0, .int .u8 0, .int .u8 0, .int .u8 0, .int .u8 0, .int .u8 0, .int .u8 0, .int .u8 0, .int .u8 0, .int .u8 0, .int .u8 0, .int .u8 0, .int .u8 0, .int .u8 0, .int .u8 0, .int .u8 0, .int .u8 0, .int .u8 0, .int .u8 0, .int .u8 0, .int .u8 0, .int .u8 0, .int .u8 0, .int .u8 0, .int .u8 0, .int .i64 0, .int .i64 0, .int .i64 0] 27)).heap.size ((w.alloc (.cells (bv zs).toArray 23)).alloc (.cells #[.int .u8 0, .int .u8 0, .int .u8 0, .int .u8 0, .int .u8 0, .int .u8 0, .int .u8 0, .int .u8 0, .int .u8 0, .int .u8 0, .int .u8 0, .int .u8 0, .int .u8 0, .int .u8 0, .int .u8 0, .int .u8 0, .int .u8 0, .int .u8 0, .int .u8 0, .int .u8 0, .int .u8 0, .int .u8 0, .int .u8 0, .int .u8 0, .int .u8 0, .int .u8 0, .int .u8 0, .int .u8 0, .int .u8 0, .int .u8 0, .int .u8 0, .int .u8 0, .int .i64 0, .int .i64 0, .int .i64 0] 27)) W3 from bel_trans W20.out KB.out)
  have D3 := Lib.hid (DB.out.bel KW.out)
  have R3 := Lib.hid (RB.out.bel KW.out)
  clear hW3 KB KW W20 DB RB
  go_upto_region 6 with fail
  go_step
  refine list_loadD (by rfl) (.tmp 9) rfl w.heap.size rfl zs D3.out ?_
  simp only [Act.put, List.setIfInBounds_toArray, List.set_cons_succ, List.set_cons_zero]
  refine list_val (by rfl) (.int .i64 n) (by go_simp) ?_
  simp only [Act.put, List.setIfInBounds_toArray, List.set_cons_succ, List.set_cons_zero]
  refine list_val (by rfl) (.agg #[.int .i64 h, .int .i64 S]) (by have c0 := SG.out.cell 0; have c1 := SG.out.cell 1; go_simp) ?_
  simp only [Act.put, List.setIfInBounds_toArray, List.set_cons_succ, List.set_cons_zero]
  refine list_build (by rfl) 27 _ rfl [(0, .agg (bv zs).toArray), (1, .int .i64 n), (2, .agg #[.int .i64 h, .int .i64 S])] (by rfl) _ (built_st hl.out n h S) ?_
  simp only [Act.put, List.setIfInBounds_toArray, List.set_cons_succ, List.set_cons_zero]
  refine list_storeApi rfl (.tmp 14) (.tmp 41) rfl (w.heap.size + 1) rfl zs n h S rfl hl.out 27 _ _ _ _ R3.out ?_
  intro w4 q4 k4
  have Q4 := Lib.hid q4
  have B4 := Lib.hid (B3.out.trans (k4.below (by omega)))
  clear q4 k4
  go_wp2_with fail
  refine bodyPost_ret (v := .tuple #[.agg (stv zs n h S).toArray, .int .i64 0]) (results_cell_tmp (a := ⟨w.heap.size + 1, 0, none⟩) Tryz.results12 _ rfl (load_st Q4.out)) rfl ⟨rfl, B4.out⟩
end Go.Proofs.YtjdkdhpippapmaaGreatDoor
