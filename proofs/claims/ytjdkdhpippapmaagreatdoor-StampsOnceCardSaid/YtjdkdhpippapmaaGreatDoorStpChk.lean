/- Package stamps: Check. -/
import Derived.Test.YtjdkdhpippapmaaGreatDoorStpZB
import Derived.Test.YtjdkdhpippapmaaGreatDoorSigVer
namespace Go.Proofs.YtjdkdhpippapmaaGreatDoor
open Go.RowKit
set_option linter.unusedVariables false
set_option linter.unusedSimpArgs false

set_option maxRecDepth 100000 in
set_option maxHeartbeats 2000000 in
theorem scheck_no (key : Int) (zs : List Int) (n c s : Int) (w : World) (hl : Hid (zs.length = 32)) (hn : Hid (valB n = false)) :
    Calls Tryz.prog 13 #[.int .i64 key, .agg (stv zs n c s).toArray] w fun e w' => e = .returned (.bool false) ∧ Below w.heap.size w w' := by
  have hlen := stv_len hl.out n c s
  go_enter Tryz.func13, Tryz.ntmps13
  go_upto_region 2 with (first
    | (refine list_loadApi (by rfl) (.tmp 3) rfl w.heap.size 0 rfl zs n c s hl.out (SBlk.box w _ n c s hl.out).1.range ?_)
    | (refine list_storeOwn rfl (.tmp 5) (.tmp 7) rfl (w.heap.size + 1) rfl zs n c s ?hy hl.out 63 (List.replicate 32 0) 0 0 0 (by have := SBlk.new (w.alloc (.cells (stv zs n c s).toArray 27)) 63; simpa using this) ?_))
  case hy =>
    obtain ⟨z0, z1, z2, z3, z4, z5, z6, z7, z8, z9, z10, z11, z12, z13, z14, z15, z16, z17, z18, z19, z20, z21, z22, z23, z24, z25, z26, z27, z28, z29, z30, z31, hzs⟩ := list32 zs hl.out
    subst zs
    kernel_rfl
  intro w1 q1 k1
  clear hlen
  have Q1 := Lib.hid q1
  have R1 := Lib.hid (show SBlk w1 w.heap.size 27 zs n c s from ((SBlk.box w _ n c s hl.out).alloc _).wrote k1 (by omega))
  have B1 := Lib.hid (show Below w.heap.size w w1 from ((bel_alloc1 w _).alloc (by simp) _).trans (k1.below (by omega)))
  clear q1 k1
  go_upto_region 2 with fail
  refine wp_region_any (by kernel_rfl) ?_
  change wpAny _ _ _ _ _ _ _ (World.drew _)
  generalize hWD : World.drew _ = W
  replace Q1 := Lib.hid (show SBlk W (w.heap.size + 1) 63 zs n c s by rw [← hWD]; exact Q1.out)
  replace R1 := Lib.hid (show SBlk W w.heap.size 27 zs n c s by rw [← hWD]; exact R1.out)
  replace B1 := Lib.hid (show Below w.heap.size w W by rw [← hWD]; exact B1.out.drew)
  clear hWD
  have hCD : ∀ u, Ext W u → Ext W u := fun u hu => hu
  refine region_U (D := Ext W) (Ext W) [8, 9, 10] (Ext.refl W) ?_
  refine anyU_takeD (i := 0) (v := .agg (stv zs n c s).toArray) 8 rfl rfl (by kernel_rfl) (by kernel_rfl) (by kernel_rfl) (fun _ _ _ h => h) (by kernel_rfl) (Ext.stable _) hCD (yieldsU_of_C (yields_loadOwn (by rfl) (.tmp 5) rfl (w.heap.size + 1) 0 rfl zs n c s hl.out (fun u hu => (Q1.out.bel hu).1.range))) ?_
  refine anyU_takeD (i := 1) (v := .bool false) 9 rfl rfl (by kernel_rfl) (by kernel_rfl) (by kernel_rfl) (fun _ _ _ h => h) (by kernel_rfl) (Ext.stable _) hCD (yieldsU_call rfl 30 _ _ rfl #[.agg (stv zs n c s).toArray] (by simp [Act.eval, Act.put]) (fun u => by go_simp) (fun u hu => by have h := shas_any zs n c s u hl; rw [hn.out] at h; exact h)) ?_
  refine anyU_takeD (i := 2) (v := .bool false) 10 rfl rfl (by kernel_rfl) (by kernel_rfl) (by kernel_rfl) (fun _ _ _ h => h) (by kernel_rfl) (Ext.stable _) hCD (yieldsU_val rfl (fun u hu => by go_simp)) ?_
  refine anyU_takeD (i := 3) (v := undef) 11 rfl rfl (by kernel_rfl) (by kernel_rfl) (by kernel_rfl) (fun _ _ _ h => h) (by kernel_rfl) (Ext.stable _) hCD (.inr ⟨by rfl, rfl⟩) ?_
  refine anyU_takeD (i := 4) (v := undef) 12 rfl rfl (by kernel_rfl) (by kernel_rfl) (by kernel_rfl) (fun _ _ _ h => h) (by kernel_rfl) (Ext.stable _) hCD (.inr ⟨by rfl, rfl⟩) ?_
  refine anyU_takeD (i := 5) (v := undef) 13 rfl rfl (by kernel_rfl) (by kernel_rfl) (by kernel_rfl) (fun _ _ _ h => h) (by kernel_rfl) (Ext.stable _) hCD (.inr ⟨by rfl, rfl⟩) ?_
  simp only [Act.put, List.setIfInBounds_toArray, List.set_cons_succ, List.set_cons_zero]
  refine anyU_takeD (i := 6) (v := undef) 14 rfl rfl (by kernel_rfl) (by kernel_rfl) (by kernel_rfl) (fun _ _ _ h => h) (by kernel_rfl) (Ext.stable _) hCD (.inr ⟨by rfl, rfl⟩) ?_
  refine anyU_takeD (i := 7) (v := undef) 15 rfl rfl (by kernel_rfl) (by kernel_rfl) (by kernel_rfl) (fun _ _ _ h => h) (by kernel_rfl) (Ext.stable _) hCD (.inr ⟨by rfl, rfl⟩) ?_
  refine anyU_tail 8 [9, 10] rfl rfl (by decide) (by kernel_rfl) ?_
  intro u3 hu3
  simp only [Act.put, List.filterMap_cons, List.filterMap_nil, List.getElem?_cons_succ, List.getElem?_cons_zero]
  go_wp2_with fail
  go_ret
  exact ⟨rfl, bel_trans B1.out hu3⟩

set_option maxRecDepth 100000 in
set_option maxHeartbeats 2000000 in
theorem scheck_is (key : Int) (zs : List Int) (n c s : Int) (vb : Bool) (w : World) (hl : Hid (zs.length = 32)) (hn : Hid (valB n = true)) (hok : Hid (∀ a ∈ [Atom.text zs, .int n], a.ok)) (htx : Hid (txOk (encL [.text zs, .int n]))) (hk : Hid (KeysAt w)) (hv : Hid (IsVer key (encL [.text zs, .int n]) c s vb)) :
    Calls Tryz.prog 13 #[.int .i64 key, .agg (stv zs n c s).toArray] w fun e w' => e = .returned (.bool vb) ∧ Below w.heap.size w w' := by
  have hlen := stv_len hl.out n c s
  go_enter Tryz.func13, Tryz.ntmps13
  go_upto_region 2 with (first
    | (refine list_loadApi (by rfl) (.tmp 3) rfl w.heap.size 0 rfl zs n c s hl.out (SBlk.box w _ n c s hl.out).1.range ?_)
    | (refine list_storeOwn rfl (.tmp 5) (.tmp 7) rfl (w.heap.size + 1) rfl zs n c s ?hy hl.out 63 (List.replicate 32 0) 0 0 0 (by have := SBlk.new (w.alloc (.cells (stv zs n c s).toArray 27)) 63; simpa using this) ?_))
  case hy =>
    obtain ⟨z0, z1, z2, z3, z4, z5, z6, z7, z8, z9, z10, z11, z12, z13, z14, z15, z16, z17, z18, z19, z20, z21, z22, z23, z24, z25, z26, z27, z28, z29, z30, z31, hzs⟩ := list32 zs hl.out
    subst zs
    kernel_rfl
  intro w1 q1 k1
  clear hlen
  have Q1 := Lib.hid q1
  have R1 := Lib.hid (show SBlk w1 w.heap.size 27 zs n c s from ((SBlk.box w _ n c s hl.out).alloc _).wrote k1 (by omega))
  have B1 := Lib.hid (show Below w.heap.size w w1 from ((bel_alloc1 w _).alloc (by simp) _).trans (k1.below (by omega)))
  clear q1 k1
  go_upto_region 2 with fail
  refine wp_region_any (by kernel_rfl) ?_
  change wpAny _ _ _ _ _ _ _ (World.drew _)
  generalize hWD : World.drew _ = W
  replace Q1 := Lib.hid (show SBlk W (w.heap.size + 1) 63 zs n c s by rw [← hWD]; exact Q1.out)
  replace R1 := Lib.hid (show SBlk W w.heap.size 27 zs n c s by rw [← hWD]; exact R1.out)
  replace B1 := Lib.hid (show Below w.heap.size w W by rw [← hWD]; exact B1.out.drew)
  clear hWD
  have hCD : ∀ u, Ext W u → Ext W u := fun u hu => hu
  refine region_U (D := Ext W) (Ext W) [8, 9, 10] (Ext.refl W) ?_
  refine anyU_takeD (i := 0) (v := .agg (stv zs n c s).toArray) 8 rfl rfl (by kernel_rfl) (by kernel_rfl) (by kernel_rfl) (fun _ _ _ h => h) (by kernel_rfl) (Ext.stable _) hCD (yieldsU_of_C (yields_loadOwn (by rfl) (.tmp 5) rfl (w.heap.size + 1) 0 rfl zs n c s hl.out (fun u hu => (Q1.out.bel hu).1.range))) ?_
  refine anyU_takeD (i := 1) (v := .bool true) 9 rfl rfl (by kernel_rfl) (by kernel_rfl) (by kernel_rfl) (fun _ _ _ h => h) (by kernel_rfl) (Ext.stable _) hCD (yieldsU_call rfl 30 _ _ rfl #[.agg (stv zs n c s).toArray] (by simp [Act.eval, Act.put]) (fun u => by go_simp) (fun u hu => by have h := shas_any zs n c s u hl; rw [hn.out] at h; exact h)) ?_
  refine anyU_takeD (i := 2) (v := .bool true) 10 rfl rfl (by kernel_rfl) (by kernel_rfl) (by kernel_rfl) (fun _ _ _ h => h) (by kernel_rfl) (Ext.stable _) hCD (yieldsU_val rfl (fun u hu => by go_simp)) ?_
  refine anyU_takeD (i := 3) (v := .int .i64 key) 11 rfl rfl (by kernel_rfl) (by kernel_rfl) (by kernel_rfl) (fun _ _ _ h => h) (by kernel_rfl) (Ext.stable _) hCD (yieldsU_val rfl (fun u hu => by go_simp)) ?_
  refine anyU_takeD (i := 4) (v := .agg (stv zs n c s).toArray) 12 rfl rfl (by kernel_rfl) (by kernel_rfl) (by kernel_rfl) (fun _ _ _ h => h) (by kernel_rfl) (Ext.stable _) hCD (yieldsU_of_C (yields_loadOwn (by rfl) (.tmp 5) rfl (w.heap.size + 1) 0 rfl zs n c s hl.out (fun u hu => (Q1.out.bel hu).1.range))) ?_
  simp only [Act.put, List.setIfInBounds_toArray, List.set_cons_succ, List.set_cons_zero]
  refine anyU_takeD (i := 6) (v := .pointer (some ⟨w.heap.size, 33, none⟩)) 14 rfl rfl (by kernel_rfl) (by kernel_rfl) (by kernel_rfl) (fun _ _ _ h => h) (by kernel_rfl) (Ext.stable _) hCD (yieldsU_val rfl (fun u hu => by go_simp)) ?_
  refine anyU_takeD (i := 7) (v := .agg #[.int .i64 c, .int .i64 s]) 15 rfl rfl (by kernel_rfl) (by kernel_rfl) (by kernel_rfl) (fun _ _ _ h => h) (by kernel_rfl) (Ext.stable _) hCD (yieldsU_val rfl (fun u hu => by obtain ⟨c33, c34⟩ := (R1.out.bel hu).sig; go_simp)) ?_
  refine anyU_one 5 3 _ rfl rfl (by kernel_rfl) ?_
  intro u1 hu
  go_wp2_with (go_at_call 31; refine (stext_is zs n c s u1 hl hok).mono ?_; rintro e u2 ⟨v2, rfl, o2, hb⟩; have O2 := Lib.hid o2; have B2 := Lib.hid (bel_trans hu hb); clear o2 hb)
  change ∃ C' : World → Prop, _ ∧ _ ∧ _ ∧ anyU _ _ _ _ _ _ 3 _ _ _
  obtain ⟨p, cp, hv2, hz2, _, _, _⟩ := own8_src O2.out
  subst v2
  have Z2 := Lib.hid hz2
  clear hz2 O2 hu
  refine anchorF (fun z => Ext W z ∧ SrcV z p (encL [.text zs, .int n]).length cp (encL [.text zs, .int n])) (fun z hz => hz.1) ((Ext.stable W).and (fun y z h k => h.below k)) ⟨B2.out, Z2.out⟩ ?_
  (try simp only [Act.put])
  refine anyU_tail 8 [9, 10] rfl rfl (by decide) (by kernel_rfl) ?_
  intro u3 hu3
  simp only [Act.put, List.filterMap_cons, List.filterMap_nil, List.getElem?_cons_succ, List.getElem?_cons_zero]
  have Z3 := Lib.hid hu3.2
  have B3 := Lib.hid (bel_trans B1.out hu3.1)
  clear hu3
  go_wp2_with (go_at_call 37; refine (verify_is key c s p _ cp (encL [.text zs, .int n]) u3 htx (Lib.hid (.inl Z3.out)) (Lib.hid (hk.out.below B3.out)) vb hv).mono ?_; rintro e u4 ⟨rfl, hb⟩; have B4 := Lib.hid (bel_trans B3.out hb); clear hb)
  cases vb
  all_goals
    go_wp2_with fail
    go_ret
    exact ⟨rfl, B4.out⟩
end Go.Proofs.YtjdkdhpippapmaaGreatDoor
