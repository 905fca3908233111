/- The reference: Int, Ints, Tag. -/
import Derived.Test.YtpjobllfiimdkaaGreatDoorOntZB
import Derived.Test.YtpjobllfiimdkaaGreatDoorRefCodZ
import Derived.Test.YtpjobllfiimdkaaGreatDoorRefTZ
import Derived.Test.YtpjobllfiimdkaaGreatDoorRegP
namespace Go.Proofs.YtpjobllfiimdkaaGreatDoor
open Go.RowKit
set_option linter.unusedVariables false
set_option linter.unusedSimpArgs false

set_option maxRecDepth 100000 in
theorem rInt_any (n : Int) (w : World) : Calls Tryz.prog 50 #[.int .i64 n] w fun e w' => e = .returned (.agg #[.int .i64 1, .int .i64 n, .string ⟨#[]⟩, .slice none 0 0]) ∧ Below w.heap.size w w' := by
  go_enter Tryz.func50, Tryz.ntmps50
  go_wp2_with fail
  refine bodyPost_ret (v := .agg #[.int .i64 1, .int .i64 n, .string ⟨#[]⟩, .slice none 0 0]) (by simp [results, Tryz.results50, go_sem]) rfl ⟨rfl, ?_⟩
  repeat refine Below.setCell ?_ (by simp) _
  exact bel_alloc1 w _
theorem atoms_other {w : World} {b d o q : Nat} {v : Value} {l : List Atom} (hne : b ≠ d) (h : AtomsAt w b o l) : AtomsAt (w.setCell ⟨d, q, none⟩ v) b o l := fun j hj => by
  obtain ⟨h1, h2, h3, h4⟩ := h j hj
  have hb := Below.heap_setCell w ⟨d, q, none⟩ v b hne
  exact ⟨(World.cell?_of_block hb).trans h1, (World.cell?_of_block hb).trans h2, (World.cell?_of_block hb).trans h3, (World.cell?_of_block hb).trans h4⟩
set_option maxRecDepth 100000 in
set_option maxHeartbeats 2000000 in
theorem rInts_is (zs : List Int) (b n : Nat) (w : World) (hn : Hid (n = zs.length)) (h0 : 0 < n) (hm : n ≤ 1000) (hb : b < w.heap.size) (hl : Hid (∀ j, j < zs.length → w.cell? ⟨b, j, none⟩ = some (.int .i64 (zs.getD j 0)))) :
    Calls Tryz.prog 56 #[.slice (some ⟨b, 0, none⟩) n n] w fun e w' => ∃ g cap, e = .returned (.agg #[.int .i64 3, .int .i64 0, .string ⟨#[]⟩, .slice (some ⟨g, 0, none⟩) n cap]) ∧ g < w'.heap.size ∧ AtomsAt w' g 0 (intsA zs) ∧ Below w.heap.size w w' := by
  have hal := Lib.hid (intsA_len zs)
  have V0 := Lib.hid ((Blk.new w #[.int .i64 0, .int .i64 0, .string ⟨#[]⟩, .slice none 0 0] 84).alloc (.cells #[.int .i64 3, .int .i64 0, .string ⟨#[]⟩, .slice none 0 0] 84))
  have V1 := Lib.hid (show Blk ((w.alloc (.cells #[.int .i64 0, .int .i64 0, .string ⟨#[]⟩, .slice none 0 0] 84)).alloc (.cells #[.int .i64 3, .int .i64 0, .string ⟨#[]⟩, .slice none 0 0] 84)) (w.heap.size + 1) #[.int .i64 3, .int .i64 0, .string ⟨#[]⟩, .slice none 0 0] 84 by have := Blk.new (w.alloc (.cells #[.int .i64 0, .int .i64 0, .string ⟨#[]⟩, .slice none 0 0] 84)) #[.int .i64 3, .int .i64 0, .string ⟨#[]⟩, .slice none 0 0] 84; simpa using this)
  have BB := Lib.hid (show Below w.heap.size w ((w.alloc (.cells #[.int .i64 0, .int .i64 0, .string ⟨#[]⟩, .slice none 0 0] 84)).alloc (.cells #[.int .i64 3, .int .i64 0, .string ⟨#[]⟩, .slice none 0 0] 84)) from (bel_alloc1 w _).alloc (by simp) _)
  go_enter Tryz.func56, Tryz.ntmps56
  go_wp2_with fail
  go_loopw [4] (fun i wr => ∃ (k : Nat) (v2 : Value), k ≤ n ∧ i = .int .i64 k ∧ Hid (Blk wr w.heap.size #[.int .i64 0, .int .i64 0, .string ⟨#[]⟩, .slice none 0 0] 84) ∧ Hid (Blk wr (w.heap.size + 1) #[.int .i64 3, .int .i64 0, .string ⟨#[]⟩, v2] 84) ∧ Hid (OwnA wr (w.heap.size + 2) v2 ((intsA zs).take k)) ∧ Hid (Below w.heap.size w wr)) (fun i _ => n - (intOf i).toNat)
  case atStart => exact ⟨0, .slice none 0 0, by omega, rfl, V0, V1, Lib.hid ⟨rfl, .inl ⟨rfl, rfl⟩⟩, BB⟩
  case round =>
    obtain ⟨k, v2, hk, rfl, HA, HV, HO, HB⟩ := hrel
    have hwr : w.heap.size + 1 < wr.heap.size := HV.out.lt
    by_cases hlt : k < n
    · have hkl : k < zs.length := by rw [← hn.out]; exact hlt
      have cx : wr.cell? ⟨b, k, none⟩ = some (.int .i64 (zs.getD k 0)) := (HB.out.cell (p := ⟨b, k, none⟩) hb).trans (hl.out k hkl)
      have HTK := Lib.hid (take_snocA (l := intsA zs) (k := k) (by rw [intsA_len]; exact hkl))
      rw [intsA_get zs k hkl] at HTK
      obtain ⟨x, hxx⟩ : ∃ x, zs.getD k 0 = x := ⟨_, rfl⟩
      rw [hxx] at cx HTK
      have hlk : ((intsA zs).take k).length ≤ 1000 := by rw [List.length_take]; omega
      have CX0 := Lib.hid cx
      clear hxx hkl cx
      go_upto_region 5 with fail
      refine wp_region_any (by kernel_rfl) ?_
      change wpAny _ _ _ _ _ _ _ (World.drew _)
      generalize hWD : World.drew _ = W
      have AX := Lib.hid (show Blk W w.heap.size #[.int .i64 0, .int .i64 0, .string ⟨#[]⟩, .slice none 0 0] 84 by rw [← hWD]; exact HA.out)
      have BX := Lib.hid (show Blk W (w.heap.size + 1) #[.int .i64 3, .int .i64 0, .string ⟨#[]⟩, v2] 84 by rw [← hWD]; exact HV.out)
      have EW := Lib.hid (show Below w.heap.size w W by rw [← hWD]; exact HB.out.drew)
      have OW := Lib.hid (show OwnA W (w.heap.size + 2) v2 ((intsA zs).take k) by rw [← hWD]; exact HO.out)
      have CX := Lib.hid (show W.cell? ⟨b, k, none⟩ = some (.int .i64 x) by rw [← hWD]; exact CX0.out)
      have hW : w.heap.size + 2 ≤ W.heap.size := BX.out.lt
      have HBL := Lib.hid (show b < W.heap.size by omega)
      clear hWD
      have hCD : ∀ u, Ext W u → Ext W u := fun u hu => hu
      refine region_U (D := Ext W) (Ext W) [8] (Ext.refl W) ?_
      refine anyU_takeP (i := 0) (j := 8) (v := .pointer (some ⟨w.heap.size + 1, 3, none⟩)) 12 [1] rfl rfl (by kernel_rfl) (by kernel_rfl) (by kernel_rfl) (fun _ _ _ h => h) (by kernel_rfl) (Ext.stable _) hCD (yieldsU_val rfl (fun u hu => by go_simp)) ?_
      refine anyU_takeP (i := 1) (j := 8) (v := v2) 13 [] rfl rfl (by kernel_rfl) (by kernel_rfl) (by kernel_rfl) (fun _ _ _ h => h) (by kernel_rfl) (Ext.stable _) hCD (yieldsU_val rfl (fun u hu => by have c := (BX.out.below hu BX.out.lt).cell 3; go_simp)) ?_
      refine anyU_takeP (i := 2) (j := 8) (v := .slice (some ⟨b, 0, none⟩) n n) 14 [6, 5, 4] rfl rfl (by kernel_rfl) (by kernel_rfl) (by kernel_rfl) (fun _ _ _ h => h) (by kernel_rfl) (Ext.stable _) hCD (yieldsU_val rfl (fun u hu => by go_simp)) ?_
      refine anyU_takeP (i := 3) (j := 8) (v := .int .i64 (k : Int)) 15 [6, 5, 4] rfl rfl (by kernel_rfl) (by kernel_rfl) (by kernel_rfl) (fun _ _ _ h => h) (by kernel_rfl) (Ext.stable _) hCD (yieldsU_val rfl (fun u hu => by go_simp)) ?_
      simp only [Act.put, List.setIfInBounds_toArray, List.set_cons_succ, List.set_cons_zero]
      refine anyU_takeP (i := 4) (j := 8) (v := .pointer (some ⟨b, k, none⟩)) 16 [6, 5] rfl rfl (by kernel_rfl) (by kernel_rfl) (by kernel_rfl) (fun _ _ _ h => h) (by kernel_rfl) (Ext.stable _) hCD (yieldsU_val rfl (fun u hu => by go_simp)) ?_
      refine anyU_takeP (i := 5) (j := 8) (v := .int .i64 x) 17 [6] rfl rfl (by kernel_rfl) (by kernel_rfl) (by kernel_rfl) (fun _ _ _ h => h) (by kernel_rfl) (Ext.stable _) hCD (yieldsU_val rfl (fun u hu => by have c := (hu.cell (p := ⟨b, k, none⟩) HBL.out).trans CX.out; go_simp)) ?_
      refine anyU_takeP (i := 6) (j := 8) (v := .agg #[.int .i64 1, .int .i64 x, .string ⟨#[]⟩, .slice none 0 0]) 18 [] rfl rfl (by kernel_rfl) (by kernel_rfl) (by kernel_rfl) (fun _ _ _ h => h) (by kernel_rfl) (Ext.stable _) hCD (yieldsU_call rfl 50 _ _ rfl #[.int .i64 x] (by simp [Act.eval, Act.put]) (fun u => by go_simp) (fun u hu => rInt_any x u)) ?_
      simp only [Act.put, List.setIfInBounds_toArray, List.set_cons_succ, List.set_cons_zero]
      refine anyU_one 7 3 _ rfl rfl (by kernel_rfl) ?_
      intro u hu
      go_wp2_with fail
      change ∃ C' : World → Prop, _ ∧ _ ∧ _ ∧ anyU _ _ _ _ _ _ 3 _ _ _
      have Z1 := Lib.hid (Blk.new u #[.int .i64 1, .int .i64 x, .string ⟨#[]⟩, .slice none 0 0] 84)
      have E1 := Lib.hid (Ext.trans hu (bel_alloc1 u (.cells #[.int .i64 1, .int .i64 x, .string ⟨#[]⟩, .slice none 0 0] 84)))
      generalize World.alloc u _ = u1 at Z1 E1 ⊢
      generalize u.heap.size = bb at Z1 ⊢
      clear hu
      refine anchorF (fun y => Ext W y ∧ Blk y bb #[.int .i64 1, .int .i64 x, .string ⟨#[]⟩, .slice none 0 0] 84) (fun y hy => hy.1) ((Ext.stable W).and (fun y z h k => h.below k h.lt)) ⟨E1.out, Z1.out⟩ ?_
      (try simp only [Act.put])
      refine anyU_tail 8 [9, 10] rfl rfl (by decide) (by kernel_rfl) ?_
      intro u2 hu2
      simp only [Act.put, List.filterMap_cons, List.filterMap_nil, List.getElem?_cons_succ, List.getElem?_cons_zero]
      have hzu : w.heap.size + 2 ≤ u2.heap.size := Nat.le_trans hW hu2.1.size
      refine appA rfl (.tmp 13) (.tmp 19) rfl (w.heap.size + 2) v2 ((intsA zs).take k) rfl (OW.out.below hu2.1) bb (.int x) rfl hu2.2 (by omega) hzu ?_
      intro v3 u3 o3 g3
      have hlo := World.ownsRow.lt OW.out
      have B3 := Lib.hid (show Blk u3 (w.heap.size + 1) #[.int .i64 3, .int .i64 0, .string ⟨#[]⟩, v2] 84 from (g3.block _ (by omega) (fun e => by have := hlo _ e.symm; omega)).trans (BX.out.below hu2.1 BX.out.lt))
      have A3 := Lib.hid (show Blk u3 w.heap.size #[.int .i64 0, .int .i64 0, .string ⟨#[]⟩, .slice none 0 0] 84 from (g3.block _ (by omega) (fun e => by have := hlo _ e.symm; omega)).trans (AX.out.below hu2.1 AX.out.lt))
      have K3 := Lib.hid (show Below w.heap.size w u3 from EW.out.trans ((Below.mono hu2.1 EW.out.size).trans ⟨g3.os, g3.tape, g3.output, g3.size, fun i hi => g3.block i (by omega) (by intro e; have := hlo _ e.symm; omega)⟩))
      have O3 := Lib.hid o3
      clear o3 g3 hu2 hlo
      obtain ⟨g4, cap4, hv4, _, _, _⟩ := OwnA.slice O3.out (by simp)
      obtain ⟨m4, hm4⟩ : ∃ m4, ((intsA zs).take k ++ [Atom.int x]).length = m4 := ⟨_, rfl⟩
      rw [hm4] at hv4
      clear hm4
      subst hv4
      have e3 := B3.out.cell 3
      have f3 := B3.out.frozen 3
      go_wp2_with fail
      refine ⟨⟨k + 1, .slice (some ⟨g4, 0, none⟩) m4 cap4, by omega, by simp, Lib.hid ?_, Lib.hid ?_, Lib.hid ?_, Lib.hid ?_⟩, ?_⟩
      · exact A3.out.other 3 _ (by omega)
      · exact B3.out.set 3 _
      · rw [HTK.out]; exact OwnA.set O3.out (by omega)
      · exact K3.out.setCell (p := ⟨w.heap.size + 1, 3, none⟩) (by simp) _
      · simp only [intOf]; omega
    · obtain rfl : k = n := by omega
      have e0 := HV.out.cell 0
      have e1 := HV.out.cell 1
      have e2 := HV.out.cell 2
      have e3 := HV.out.cell 3
      have a0 := HA.out.cell 0
      have a1 := HA.out.cell 1
      have a2 := HA.out.cell 2
      have a3 := HA.out.cell 3
      have y0 := HA.out.frozen 0
      have y1 := HA.out.frozen 1
      have y2 := HA.out.frozen 2
      have y3 := HA.out.frozen 3
      have hlA := HO.out
      rw [List.take_of_length_le (by rw [intsA_len]; have := hn.out; omega)] at hlA
      obtain ⟨g, cap, rfl, hg1, hg2, hat⟩ := hlA.slice (by rw [intsA_len]; have := hn.out; omega)
      have HAT := Lib.hid hat
      clear hat hlA
      have hll : (intsA zs).length = k := by rw [intsA_len]; exact hn.out.symm
      rw [hll] at e3
      go_wp2_with fail
      have K2 := Lib.hid ((((HB.out.setCell (p := ⟨w.heap.size, 0, none⟩) (by simp) (.int .i64 3)).setCell (p := ⟨w.heap.size, 1, none⟩) (by simp) (.int .i64 0)).setCell (p := ⟨w.heap.size, 2, none⟩) (by simp) (.string ⟨#[]⟩)).setCell (p := ⟨w.heap.size, 3, none⟩) (by simp) (.slice (some ⟨g, 0, none⟩) k cap))
      have L2 := Lib.hid ((((HA.out.set 0 (.int .i64 3)).set 1 (.int .i64 0)).set 2 (.string ⟨#[]⟩)).set 3 (.slice (some ⟨g, 0, none⟩) k cap))
      have G2 := Lib.hid (show (AtomsAt ((((wr.setCell ⟨w.heap.size, 0, none⟩ (.int .i64 3)).setCell ⟨w.heap.size, 1, none⟩ (.int .i64 0)).setCell ⟨w.heap.size, 2, none⟩ (.string ⟨#[]⟩)).setCell ⟨w.heap.size, 3, none⟩ (.slice (some ⟨g, 0, none⟩) k cap)) g 0 (intsA zs)) from atoms_other (by omega) (atoms_other (by omega) (atoms_other (by omega) (atoms_other (by omega) HAT.out))))
      have hg3 : g < ((((wr.setCell ⟨w.heap.size, 0, none⟩ (.int .i64 3)).setCell ⟨w.heap.size, 1, none⟩ (.int .i64 0)).setCell ⟨w.heap.size, 2, none⟩ (.string ⟨#[]⟩)).setCell ⟨w.heap.size, 3, none⟩ (.slice (some ⟨g, 0, none⟩) k cap)).heap.size := by simpa using hg2
      generalize World.setCell (World.setCell (World.setCell (World.setCell wr _ _) _ _) _ _) _ _ = W2 at K2 L2 G2 hg3 ⊢
      have l0 := L2.out.cell 0
      have l1 := L2.out.cell 1
      have l2 := L2.out.cell 2
      have l3 := L2.out.cell 3
      simp at l0 l1 l2 l3
      refine bodyPost_ret (v := .agg #[.int .i64 3, .int .i64 0, .string ⟨#[]⟩, .slice (some ⟨g, 0, none⟩) k cap]) (by simp [results, Tryz.results56, go_sem, l0, l1, l2, l3]) rfl ⟨g, cap, rfl, hg3, G2.out, K2.out⟩
theorem rtag_own (l k a b : Int) (B : Nat) (v : Value) (w : World) (hv : Hid (Own8 w B v (encL (intsA [l, k, a, b])))) (hok : Hid (∀ x ∈ intsA [l, k, a, b], x.ok)) (ds : List Int) (hd : Hid (IsTag l k a b ds)) :
    Calls Tryz.prog 80 #[.string ⟨#[114, 101, 116, 117, 114, 110]⟩, v] w fun e w' => e = .returned (.agg (bv ds).toArray) ∧ Below w.heap.size w w' := by
  obtain ⟨ts, h1, h2⟩ := hd.out
  obtain ⟨p, cap, rfl, s1, s2, s3, _⟩ := own8_src hv.out
  exact rtagged_any _ p _ cap _ w (Lib.hid (.inl s1)) (Lib.hid (encL_rng hok.out)) (by decide) (by have := encL_len hok.out (by simp [intsA]); rw [lenI] at this; omega) ts ds (Lib.hid h1) (Lib.hid h2)
set_option maxRecDepth 100000 in
set_option maxHeartbeats 2000000 in
theorem rtag_is (l k a b : Int) (zs : List Int) (w : World) (hz : Hid (zs.length = 32)) (hok : Hid (∀ x ∈ intsA [l, k, a, b], x.ok)) (ds : List Int) (hd : Hid (IsTag l k a b ds)) :
    Calls Tryz.prog 84 #[.agg (rtv l k a b zs).toArray] w fun e w' => e = .returned (.agg (bv ds).toArray) ∧ Below w.heap.size w w' := by
  have ld := Lib.hid hd.out.len
  have X0 := Lib.hid ((RBlk.box w l k a b hz.out).alloc (.cells #[.int .u8 0, .int .u8 0, .int .u8 0, .int .u8 0, .int .u8 0, .int .u8 0, .int .u8 0, .int .u8 0, .int .u8 0, .int .u8 0, .int .u8 0, .int .u8 0, .int .u8 0, .int .u8 0, .int .u8 0, .int .u8 0, .int .u8 0, .int .u8 0, .int .u8 0, .int .u8 0, .int .u8 0, .int .u8 0, .int .u8 0, .int .u8 0, .int .u8 0, .int .u8 0, .int .u8 0, .int .u8 0, .int .u8 0, .int .u8 0, .int .u8 0, .int .u8 0] 27))
  have D0 := Lib.hid (show Dg ((w.alloc (.cells (rtv l k a b zs).toArray 29)).alloc (.cells #[.int .u8 0, .int .u8 0, .int .u8 0, .int .u8 0, .int .u8 0, .int .u8 0, .int .u8 0, .int .u8 0, .int .u8 0, .int .u8 0, .int .u8 0, .int .u8 0, .int .u8 0, .int .u8 0, .int .u8 0, .int .u8 0, .int .u8 0, .int .u8 0, .int .u8 0, .int .u8 0, .int .u8 0, .int .u8 0, .int .u8 0, .int .u8 0, .int .u8 0, .int .u8 0, .int .u8 0, .int .u8 0, .int .u8 0, .int .u8 0, .int .u8 0, .int .u8 0] 27)) (w.heap.size + 1) (List.replicate 32 0) by have := Dg.new (w.alloc (.cells (rtv l k a b zs).toArray 29)); simpa using this)
  have B0 := Lib.hid (show Below w.heap.size w ((w.alloc (.cells (rtv l k a b zs).toArray 29)).alloc (.cells #[.int .u8 0, .int .u8 0, .int .u8 0, .int .u8 0, .int .u8 0, .int .u8 0, .int .u8 0, .int .u8 0, .int .u8 0, .int .u8 0, .int .u8 0, .int .u8 0, .int .u8 0, .int .u8 0, .int .u8 0, .int .u8 0, .int .u8 0, .int .u8 0, .int .u8 0, .int .u8 0, .int .u8 0, .int .u8 0, .int .u8 0, .int .u8 0, .int .u8 0, .int .u8 0, .int .u8 0, .int .u8 0, .int .u8 0, .int .u8 0, .int .u8 0, .int .u8 0] 27)) from (bel_alloc1 w _).alloc (by simp) _)
  obtain ⟨c0, c1, c2, c3⟩ := X0.out.ints
  go_enter Tryz.func84, Tryz.ntmps84
  go_upto_region 1 with fail
  generalize hW : World.alloc (World.alloc w _) _ = W at X0 D0 B0 c0 c1 c2 c3 ⊢
  clear hW
  go_wp2_with (first
    | (go_at_call 56; refine (rInts_is [l, k, a, b] W.heap.size 4 _ (Lib.hid rfl) (by omega) (by omega) (by simp) (Lib.hid fun j h => by have := ints_new [l, k, a, b] W 3 j h; rwa [Nat.zero_add] at this)).mono ?_; rintro e w1 ⟨g, gc, rfl, hg, ga, hb⟩; have GA := Lib.hid ga; have HG := Lib.hid hg; have BA := Lib.hid ((bel_alloc1 W _).trans (hb.mono (by simp))); have B1 := Lib.hid (bel_trans B0.out BA.out); have D1 := Lib.hid (D0.out.bel BA.out); clear ga hg hb BA)
    | (go_at_call 48; refine (rEncode_list (intsA [l, k, a, b]) g 0 4 gc _ (Lib.hid rfl) (by omega) hok HG.out GA (Lib.hid (by rw [lenI]; omega))).mono ?_; rintro e w2 ⟨v2, rfl, o2, hb⟩; have O2 := Lib.hid o2; have B2 := Lib.hid (bel_trans B1.out hb); have D2 := Lib.hid (D1.out.bel hb); clear o2 hb)
    | (go_at_call 80; refine (rtag_own l k a b _ v2 _ O2 hok ds hd).mono ?_; rintro e w3 ⟨rfl, hb⟩; have B3 := Lib.hid (bel_trans B2.out hb); have D3 := Lib.hid (D2.out.bel hb); clear hb)
    | (refine list_storeD rfl (.tmp 2) (.tmp 22) rfl (w.heap.size + 1) rfl ds rfl ld.out (List.replicate 32 0) D3.out ?_))
  intro w4 D4 k4
  have B4 := Lib.hid (B3.out.trans (k4.below (by omega)))
  have DD := Lib.hid D4
  clear D4 k4
  go_wp2_with fail
  refine bodyPost_ret (results_cell1 (a := ⟨w.heap.size + 1, 0, none⟩) (v := .agg (bv ds).toArray) rfl _ rfl (load_dig DD.out)) rfl ⟨rfl, B4.out⟩
end Go.Proofs.YtpjobllfiimdkaaGreatDoor
