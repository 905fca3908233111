/- Each stamp is spent at most once, in whatever order. No condition. -/
import Derived.Test.YtjdkdhpippapmaaGreatDoorStpZE
import Derived.Test.YtjdkdhpippapmaaGreatDoorStpZD
import Derived.Test.YtjdkdhpippapmaaGreatDoorStpOpn
import Derived.Test.YtjdkdhpippapmaaGreatDoorStpRf3
import Derived.Test.YtjdkdhpippapmaaGreatDoorStpMak
namespace Go.Proofs.YtjdkdhpippapmaaGreatDoor
open Go.ChangeShapes Go.WideShapes Go.ChangeAt Go.RowKit Go.WideElems Go.Shelf
set_option linter.unusedVariables false
set_option linter.unusedSimpArgs false

theorem take_mem {l : List (List Int)} {k : Nat} {e : List Int} (h : k < l.length) : e ∈ l.take (k + 1) ↔ e ∈ l.take k ∨ e = l.getD k [] := by
  rw [List.take_add_one, List.mem_append, List.getElem?_eq_getElem h, List.getD_eq_getElem?_getD, List.getElem?_eq_getElem h]
  simp
theorem drop_mem {l : List (List Int)} {q : Nat} {e : List Int} (h : q < l.length) : e ∈ l.drop q ↔ e = l.getD q [] ∨ e ∈ l.drop (q + 1) := by
  rw [List.drop_eq_getElem_cons h, List.mem_cons, List.getD_eq_getElem?_getD, List.getElem?_eq_getElem h]
  simp
set_option maxRecDepth 100000 in
set_option maxHeartbeats 4000000 in
theorem stampsOnce_many (a : Int) (l : List (List Int)) (p : Option Addr) (n cp : Nat) (m : Int) (w : World) (hd : Hid (Dgs l)) (hz : Hid (SrcL w p n cp l)) (hk : Hid (KeysAt w)) (HA0 : Hid (0 ≤ a ∧ a ≤ 4294967295)) (HM0 : Hid ((Lit.int .i64 m).wf = true)) (hn : ¬ n ≤ 12) :
    Calls Tryz.prog 7 #[.int .u32 a, .slice p n cp, .int .i64 m] w fun q w' => q = .returned (.bool true) ∧ Below w.heap.size w w' := by
  have h12 : ¬ ((n : Int) ≤ 12) := by omega
  go_enter Tryz.func7, Tryz.ntmps7
  go_wp2_with (go_at_call 8; refine (sane37_any w hk).mono ?_; rintro e w1 ⟨rfl, hb⟩; have B1 := Lib.hid hb; clear hb)
  go_ret
  exact ⟨rfl, B1.out⟩
set_option maxRecDepth 100000 in
set_option maxHeartbeats 8000000 in
theorem stampsOnce_few (a : Int) (l : List (List Int)) (p : Option Addr) (n cp : Nat) (m : Int) (xa vv key : Int) (w : World) (hd : Hid (Dgs l)) (hz : Hid (SrcL w p n cp l)) (hk : Hid (KeysAt w)) (HA0 : Hid (0 ≤ a ∧ a ≤ 4294967295)) (HM0 : Hid ((Lit.int .i64 m).wf = true)) (hn : n ≤ 12) (HSA : Hid (1 + a % 1073741788 = xa)) (HVV : Hid (valZ m = vv)) (HVN : Hid (valB vv = true)) (HXA : Hid (secB xa = true)) (HKEY : Hid (IsPw 4 xa key)) :
    Calls Tryz.prog 7 #[.int .u32 a, .slice p n cp, .int .i64 m] w fun q w' => q = .returned (.bool true) ∧ Below w.heap.size w w' := by
  have hnl := Lib.hid hz.out.1
  have h12 : (n : Int) ≤ 12 := by omega
  go_enter Tryz.func7, Tryz.ntmps7
  go_upto_region 11 with (first
    | (go_at_call 8; refine (sane37_any w hk).mono ?_; rintro e w1 ⟨rfl, hb⟩; have B1 := Lib.hid hb; clear hb)
    | (go_at_call 20; refine (secret_is a xa _ HA0 HSA).mono ?_; rintro e w' ⟨rfl, rfl⟩)
    | (go_at_call 19; refine (pub_is xa key _ HXA HKEY).mono ?_; rintro e w2 ⟨rfl, hb⟩; have B2 := Lib.hid (bel_trans B1.out hb); clear hb))
  go_loopw [9, 11, 37] (fun x y i wr => ∃ (k : Nat) (U : List (List Int)) (p1 : Option Addr) (c1 : Nat), k ≤ n ∧ U.length ≤ k ∧ i = .int .i64 k ∧ x = .slice p1 (U.length : Nat) c1 ∧ y = .int .i64 (U.length : Nat) ∧ Hid (SrcL wr p1 U.length c1 U) ∧ Hid (Dgs U) ∧ Hid (adjOK U) ∧ Hid (∀ e, e ∈ U ↔ e ∈ l.take k) ∧ Hid (Below w.heap.size w wr)) (fun _ _ i _ => n - (intOf i).toNat)
  case atStart => exact ⟨0, [], none, 0, by omega, Nat.le_refl _, rfl, rfl, rfl, Lib.hid ⟨rfl, Nat.le_refl _, by decide, .inl ⟨rfl, fun _ => rfl⟩⟩, Lib.hid Dgs.nil, Lib.hid (fun j hj => by simp at hj), Lib.hid (fun e => by simp), B2⟩
  case round =>
    clear B2
    obtain ⟨k, U, p1, c1, hkn, hUk, rfl, rfl, rfl, U2, DU, AU, MU, B2⟩ := hrel
    by_cases hkl : k < n
    · have t1 : (k : Int) < n := by omega
      have h0 : ¬ ((k : Int) < 0) := by omega
      obtain ⟨b, off, rfl, hlt0, hb0⟩ := hz.out.pos (by omega)
      have hlt := Lib.hid hlt0
      have HBY := Lib.hid hb0
      clear hlt0 hb0
      have HKL0 := Lib.hid (show k < l.length by rw [← hnl.out]; omega)
      obtain ⟨d, hdk⟩ : ∃ x, l.getD k [] = x := ⟨_, rfl⟩
      have LD := Lib.hid (show d.length = 32 by rw [← hdk]; exact (hd.out.get HKL0.out).1)
      have RD := Lib.hid (show ∀ z ∈ d, 0 ≤ z ∧ z ≤ 255 by rw [← hdk]; exact (hd.out.get HKL0.out).2)
      have HDK := Lib.hid hdk
      clear hdk
      have hcc : (k : Int) ≤ cp := by have := hz.out.2.1; omega
      have hcm : (cp : Int) ≤ 9223372036854775807 := by have := hz.out.2.2.1; unfold maxLen at this; omega
      have HOK := Lib.hid (st_ok LD.out RD.out HVN.out)
      have HTX := Lib.hid (st_tx LD.out HOK.out)
      obtain ⟨cc, ss, hsig⟩ := isSig xa (encL [.text d, .int vv])
      have HSIG := Lib.hid hsig
      have HCK := Lib.hid (show IsChk key d vv cc ss true from .inr ⟨HVN.out, by have := hsig.ver; rw [HKEY.out.eq] at this; exact this⟩)
      obtain ⟨ip, hip⟩ := isPos_ex AU.out d
      have HIP := Lib.hid hip
      clear hsig hip
      go_upto_region 13 with (first
        | (refine list_loadM (by rfl) (.tmp 40) rfl b (off + k * 32) rfl d (by rw [← HDK.out]; exact flat_at hd.out (HBY.out.below B2.out hlt.out) HKL0.out) LD.out ?_)
        | (refine list_storeD rfl (.tmp 13) (.tmp 41) rfl wr.heap.size rfl d rfl LD.out _ (Dg.new wr) ?_))
      intro u3 d3 k3
      have K3 := Lib.hid ((bel_alloc1 wr _).trans (k3.below (Nat.le_refl _)))
      have D3 := Lib.hid d3
      have B3 := Lib.hid (bel_trans B2.out K3.out)
      have U3 := Lib.hid (U2.out.below K3.out)
      clear d3 k3 K3 B2 U2
      generalize wr.heap.size = db at D3 ⊢
      go_upto_region 15 with fail
      go_loopw [14, 46] (fun x i wr => ∃ j : Nat, j ≤ k ∧ i = .int .i64 j ∧ x = .bool (hasD (l.take j) d) ∧ Hid (Below w.heap.size w wr) ∧ Hid (Dg wr db d) ∧ Hid (SrcL wr p1 U.length c1 U)) (fun _ i _ => k - (intOf i).toNat)
      case atStart => exact ⟨0, by omega, rfl, by simp [hasD], B3, D3, U3⟩
      case round =>
        clear B3 D3 U3
        obtain ⟨j, hj, rfl, rfl, B4, D4, U4⟩ := hrel
        by_cases hjk : j < k
        · have t1 : (j : Int) < k := by omega
          have h0j : ¬ ((j : Int) < 0) := by omega
          have HJL := Lib.hid (show j < l.length by rw [← hnl.out]; omega)
          obtain ⟨dj, hdj⟩ : ∃ x, l.getD j [] = x := ⟨_, rfl⟩
          have LDJ := Lib.hid (show dj.length = 32 by rw [← hdj]; exact (hd.out.get HJL.out).1)
          have HDJ := Lib.hid hdj
          clear hdj
          have EQ := eqDig_any dj d LDJ.out LD.out
          go_upto_region 17 with (first
            | (refine list_loadM (by rfl) (.tmp 48) rfl b (off + j * 32) rfl dj (by rw [← HDJ.out]; exact flat_at hd.out (HBY.out.below B4.out hlt.out) HJL.out) LDJ.out ?_)
            | (refine list_storeD rfl (.tmp 16) (.tmp 49) rfl wr.heap.size rfl dj rfl LDJ.out _ (Dg.new wr) ?_))
          intro u5 d5 k5
          have K5 := Lib.hid ((bel_alloc1 wr _).trans (k5.below (Nat.le_refl _)))
          have J5 := Lib.hid d5
          have B5 := Lib.hid (bel_trans B4.out K5.out)
          have D5 := Lib.hid (D4.out.bel K5.out)
          have U5 := Lib.hid (U4.out.below K5.out)
          clear d5 k5 K5 B4 D4 U4
          generalize wr.heap.size = jb at J5 ⊢
          obtain ⟨mt, hmt⟩ : ∃ q, hasD (l.take j) d = q := ⟨_, rfl⟩
          have HMT := Lib.hid hmt
          rw [hmt]
          clear hmt
          have hnext : ∀ q : Bool, (hasD (l.take j) d || decide (dj = d)) = q → hasD (l.take (j + 1)) d = q := fun q hq => by
            rw [← hq, Bool.eq_iff_iff, has_iff, take_mem HJL.out, HDJ.out, Bool.or_eq_true, has_iff, decide_eq_true_eq]
            constructor
            · rintro (h | h)
              · exact .inl h
              · exact .inr h.symm
            · rintro (h | h)
              · exact .inl h
              · exact .inr h.symm
          have HNX := Lib.hid hnext
          clear hnext
          cases mt with
          | true =>
            go_wp2_with fail
            go_roundw
            case rel => exact ⟨j + 1, by omega, by simp, by rw [HNX.out true (by rw [HMT.out]; rfl)], B5, D5, U5⟩
            case measure => simp [intOf]; omega
          | false =>
            obtain ⟨eq, heq⟩ : ∃ q, decide (dj = d) = q := ⟨_, rfl⟩
            rw [heq] at EQ
            have HEQ := Lib.hid heq
            clear heq
            go_wp2_with (first
              | (refine list_loadD (by rfl) (.tmp 16) rfl jb rfl dj J5.out ?_)
              | (refine list_loadD (by rfl) (.tmp 13) rfl db rfl d D5.out ?_))
            go_roundw
            case rel => exact ⟨j + 1, by omega, by simp, by rw [HNX.out eq (by rw [HMT.out, HEQ.out]; simp)], B5, D5, U5⟩
            case measure => simp [intOf]; omega
        · obtain rfl : j = k := by omega
          have t1 : ¬ ((j : Int) < j) := by omega
          have HKL := HKL0
          go_upto_region 19 with fail
          have hin : hasD (l.take j) d = hasD U d := by
            rw [Bool.eq_iff_iff, has_iff, has_iff, MU.out]
          obtain ⟨mt, hmt⟩ : ∃ q, hasD U d = q := ⟨_, rfl⟩
          rw [hin, hmt]
          have HHU := Lib.hid hmt
          clear hin hmt
          cases mt with
          | true =>
            have HIN := Lib.hid (show d ∈ l.take j by rw [← MU.out]; exact has_iff.1 HHU.out)
            refine wp_region_any (by kernel_rfl) ?_
            change wpAny _ _ _ _ _ _ _ (World.drew _)
            generalize hWD : World.drew _ = W
            have B5 := Lib.hid (show Below w.heap.size w W by rw [← hWD]; exact B4.out.drew)
            have D5 := Lib.hid (show Dg W db d by rw [← hWD]; exact D4.out)
            have U5 := Lib.hid (show SrcL W p1 U.length c1 U by rw [← hWD]; exact U4.out.below ((Below.refl _ _).drew))
            clear hWD
            have hCD : ∀ u, Ext W u → Ext W u := fun u hu => hu
            refine region_U (D := Ext W) (Ext W) [13] (Ext.refl W) ?_
            refine anyU_takeD (i := 0) (v := .slice p1 (U.length : Nat) c1) 58 rfl rfl (by kernel_rfl) (by kernel_rfl) (by kernel_rfl) (fun _ _ _ h => h) (by kernel_rfl) (Ext.stable _) hCD (yieldsU_val rfl (fun u0 hu => by go_simp)) ?_
            refine anyU_takeD (i := 1) (v := .int .i64 key) 59 rfl rfl (by kernel_rfl) (by kernel_rfl) (by kernel_rfl) (fun _ _ _ h => h) (by kernel_rfl) (Ext.stable _) hCD (yieldsU_val rfl (fun u0 hu => by go_simp)) ?_
            refine anyU_takeD (i := 2) (v := .int .u32 a) 60 rfl rfl (by kernel_rfl) (by kernel_rfl) (by kernel_rfl) (fun _ _ _ h => h) (by kernel_rfl) (Ext.stable _) hCD (yieldsU_val rfl (fun u0 hu => by go_simp)) ?_
            refine anyU_takeD (i := 3) (v := .int .i64 xa) 61 rfl rfl (by kernel_rfl) (by kernel_rfl) (by kernel_rfl) (fun _ _ _ h => h) (by kernel_rfl) (Ext.stable _) hCD (yieldsU_call rfl 20 _ _ rfl #[.int .u32 a] (by simp [Act.eval, Act.put]) (fun u => by go_simp) (fun u0 hu => (secret_is a xa _ HA0 HSA).mono fun q w' hq => by obtain ⟨h1, h2⟩ := hq; subst h2; exact ⟨h1, Below.refl _ _⟩)) ?_
            refine anyU_takeD (i := 4) (v := .agg (bv d).toArray) 62 rfl rfl (by kernel_rfl) (by kernel_rfl) (by kernel_rfl) (fun _ _ _ h => h) (by kernel_rfl) (Ext.stable _) hCD (yieldsU_of_C (yields_loadD (by rfl) (.tmp 13) rfl db rfl d LD.out (fun u0 hu => D5.out.bel hu))) ?_
            refine anyU_takeD (i := 5) (v := .int .i64 m) 63 rfl rfl (by kernel_rfl) (by kernel_rfl) (by kernel_rfl) (fun _ _ _ h => h) (by kernel_rfl) (Ext.stable _) hCD (yieldsU_val rfl (fun u0 hu => by go_simp)) ?_
            refine anyU_takeD (i := 6) (v := .int .i64 vv) 64 rfl rfl (by kernel_rfl) (by kernel_rfl) (by kernel_rfl) (fun _ _ _ h => h) (by kernel_rfl) (Ext.stable _) hCD (yieldsU_call rfl 22 _ _ rfl #[.int .i64 m] (by simp [Act.eval, Act.put]) (fun u => by go_simp) (fun u0 hu => (value_is m vv _ HM0 HVV).mono fun q w' hq => by obtain ⟨h1, h2⟩ := hq; subst h2; exact ⟨h1, Below.refl _ _⟩)) ?_
            simp only [Act.put, List.setIfInBounds_toArray, List.set_cons_succ, List.set_cons_zero]
            refine anyU_takeD (i := 7) (v := .agg (stv d vv cc ss).toArray) 65 rfl rfl (by kernel_rfl) (by kernel_rfl) (by kernel_rfl) (fun _ _ _ h => h) (by kernel_rfl) (Ext.stable _) hCD (yieldsU_call rfl 27 _ _ rfl #[.int .i64 xa, .agg (bv d).toArray, .int .i64 vv] (by simp [Act.eval, Act.put]) (fun u => by go_simp) (fun u0 hu => rmake_is xa d vv cc ss _ LD HXA HOK HTX HSIG)) ?_
            refine anyU_takeD (i := 8) (v := .tuple #[.slice none 0 0, .int .i64 161]) 66 rfl rfl (by kernel_rfl) (by kernel_rfl) (by kernel_rfl) (fun _ _ _ h => h) (by kernel_rfl) (Ext.stable _) hCD (yieldsU_call rfl 16 _ _ rfl #[.slice p1 (U.length : Nat) c1, .int .i64 key, .agg (stv d vv cc ss).toArray] (by simp [Act.eval, Act.put]) (fun u => by go_simp) (fun u0 hu => spend_found key d vv cc ss U p1 U.length c1 _ LD RD DU (Lib.hid (U5.out.below hu)) (by omega) (Lib.hid ((hk.out.below B5.out).below hu)) AU HCK ip HIP HHU)) ?_
            simp only [Act.put, List.setIfInBounds_toArray, List.set_cons_succ, List.set_cons_zero]
            refine anyU_takeD (i := 9) (v := .tuple #[.slice none 0 0, .int .i64 161]) 57 rfl rfl (by kernel_rfl) (by kernel_rfl) (by kernel_rfl) (fun _ _ _ h => h) (by kernel_rfl) (Ext.stable _) hCD (yieldsU_val rfl (fun u0 hu => by go_simp)) ?_
            refine anyU_takeD (i := 10) (v := .slice none 0 0) 67 rfl rfl (by kernel_rfl) (by kernel_rfl) (by kernel_rfl) (fun _ _ _ h => h) (by kernel_rfl) (Ext.stable _) hCD (yieldsU_val rfl (fun u0 hu => by go_simp)) ?_
            refine anyU_takeD (i := 11) (v := .int .i64 161) 68 rfl rfl (by kernel_rfl) (by kernel_rfl) (by kernel_rfl) (fun _ _ _ h => h) (by kernel_rfl) (Ext.stable _) hCD (yieldsU_val rfl (fun u0 hu => by go_simp)) ?_
            refine anyU_takeD (i := 12) (v := .slice none 0 0) 17 rfl rfl (by kernel_rfl) (by kernel_rfl) (by kernel_rfl) (fun _ _ _ h => h) (by kernel_rfl) (Ext.stable _) hCD (yieldsU_val rfl (fun u0 hu => by go_simp)) ?_
            simp only [Act.put, List.setIfInBounds_toArray, List.set_cons_succ, List.set_cons_zero]
            refine anyU_tail 13 [] rfl rfl (by decide) (by kernel_rfl) ?_
            intro u6 hu6
            simp only [Act.put, List.filterMap_cons, List.filterMap_nil, List.getElem?_cons_succ, List.getElem?_cons_zero]
            have B6 := Lib.hid (bel_trans B5.out hu6)
            have U6 := Lib.hid (U5.out.below hu6)
            clear hu6
            go_wp2_with fail
            go_roundw
            case rel =>
              refine ⟨j + 1, U, p1, c1, by omega, by omega, by simp, rfl, rfl, U6, DU, AU, Lib.hid fun e => ?_, B6⟩
              rw [take_mem HKL.out, HDK.out, MU.out]
              constructor
              · intro h; exact .inl h
              · rintro (h | h)
                · exact h
                · rw [h]; exact HIN.out
            case measure => simp [intOf]; omega
          | false =>
            refine wp_region_any (by kernel_rfl) ?_
            change wpAny _ _ _ _ _ _ _ (World.drew _)
            generalize hWD : World.drew _ = W
            have B5 := Lib.hid (show Below w.heap.size w W by rw [← hWD]; exact B4.out.drew)
            have D5 := Lib.hid (show Dg W db d by rw [← hWD]; exact D4.out)
            have U5 := Lib.hid (show SrcL W p1 U.length c1 U by rw [← hWD]; exact U4.out.below ((Below.refl _ _).drew))
            clear hWD
            have hCD : ∀ u, Ext W u → Ext W u := fun u hu => hu
            refine region_U (D := Ext W) (Ext W) [13] (Ext.refl W) ?_
            refine anyU_takeD (i := 0) (v := .slice p1 (U.length : Nat) c1) 58 rfl rfl (by kernel_rfl) (by kernel_rfl) (by kernel_rfl) (fun _ _ _ h => h) (by kernel_rfl) (Ext.stable _) hCD (yieldsU_val rfl (fun u0 hu => by go_simp)) ?_
            refine anyU_takeD (i := 1) (v := .int .i64 key) 59 rfl rfl (by kernel_rfl) (by kernel_rfl) (by kernel_rfl) (fun _ _ _ h => h) (by kernel_rfl) (Ext.stable _) hCD (yieldsU_val rfl (fun u0 hu => by go_simp)) ?_
            refine anyU_takeD (i := 2) (v := .int .u32 a) 60 rfl rfl (by kernel_rfl) (by kernel_rfl) (by kernel_rfl) (fun _ _ _ h => h) (by kernel_rfl) (Ext.stable _) hCD (yieldsU_val rfl (fun u0 hu => by go_simp)) ?_
            refine anyU_takeD (i := 3) (v := .int .i64 xa) 61 rfl rfl (by kernel_rfl) (by kernel_rfl) (by kernel_rfl) (fun _ _ _ h => h) (by kernel_rfl) (Ext.stable _) hCD (yieldsU_call rfl 20 _ _ rfl #[.int .u32 a] (by simp [Act.eval, Act.put]) (fun u => by go_simp) (fun u0 hu => (secret_is a xa _ HA0 HSA).mono fun q w' hq => by obtain ⟨h1, h2⟩ := hq; subst h2; exact ⟨h1, Below.refl _ _⟩)) ?_
            refine anyU_takeD (i := 4) (v := .agg (bv d).toArray) 62 rfl rfl (by kernel_rfl) (by kernel_rfl) (by kernel_rfl) (fun _ _ _ h => h) (by kernel_rfl) (Ext.stable _) hCD (yieldsU_of_C (yields_loadD (by rfl) (.tmp 13) rfl db rfl d LD.out (fun u0 hu => D5.out.bel hu))) ?_
            refine anyU_takeD (i := 5) (v := .int .i64 m) 63 rfl rfl (by kernel_rfl) (by kernel_rfl) (by kernel_rfl) (fun _ _ _ h => h) (by kernel_rfl) (Ext.stable _) hCD (yieldsU_val rfl (fun u0 hu => by go_simp)) ?_
            refine anyU_takeD (i := 6) (v := .int .i64 vv) 64 rfl rfl (by kernel_rfl) (by kernel_rfl) (by kernel_rfl) (fun _ _ _ h => h) (by kernel_rfl) (Ext.stable _) hCD (yieldsU_call rfl 22 _ _ rfl #[.int .i64 m] (by simp [Act.eval, Act.put]) (fun u => by go_simp) (fun u0 hu => (value_is m vv _ HM0 HVV).mono fun q w' hq => by obtain ⟨h1, h2⟩ := hq; subst h2; exact ⟨h1, Below.refl _ _⟩)) ?_
            simp only [Act.put, List.setIfInBounds_toArray, List.set_cons_succ, List.set_cons_zero]
            refine anyU_takeD (i := 7) (v := .agg (stv d vv cc ss).toArray) 65 rfl rfl (by kernel_rfl) (by kernel_rfl) (by kernel_rfl) (fun _ _ _ h => h) (by kernel_rfl) (Ext.stable _) hCD (yieldsU_call rfl 27 _ _ rfl #[.int .i64 xa, .agg (bv d).toArray, .int .i64 vv] (by simp [Act.eval, Act.put]) (fun u => by go_simp) (fun u0 hu => rmake_is xa d vv cc ss _ LD HXA HOK HTX HSIG)) ?_
            simp only [Act.put, List.setIfInBounds_toArray, List.set_cons_succ, List.set_cons_zero]
            refine anyU_one 8 5 _ rfl rfl (by kernel_rfl) ?_
            intro u6 hu
            go_wp2_with (go_at_call 16; refine (spend_ok key d vv cc ss U p1 U.length c1 u6 LD RD DU (Lib.hid (U5.out.below hu)) (by omega) (Lib.hid ((hk.out.below B5.out).below hu)) AU HCK ip HIP HHU).mono ?_; rintro e u7 ⟨v1, rfl, o1, hb⟩; have O7 := Lib.hid o1; have E7 := Lib.hid (bel_trans hu hb); clear hb o1)
            change ∃ C' : World → Prop, _ ∧ _ ∧ _ ∧ anyU _ _ _ _ _ _ 5 _ _ _
            have hdp : Dgs (putD U d ip) := DU.out.put LD.out RD.out ip
            have hpl : (putD U d ip).length = U.length + 1 := putD_len U d ip HIP.out.1
            have hO7 := O7.out
            rw [← hpl] at hO7
            obtain ⟨p7, c7, hv7, hs7⟩ := ownR_src hdp hO7
            subst v1
            rw [hpl] at hs7 ⊢
            have S7 := Lib.hid hs7
            have HDP := Lib.hid hdp
            have HPL := Lib.hid hpl
            clear hs7 hO7 O7 hu hdp hpl
            refine anchorF (fun z => Ext W z ∧ SrcL z p7 (U.length + 1) c7 (putD U d ip)) (fun z hz => hz.1) ((Ext.stable W).and (fun y z h k => h.below k)) ⟨E7.out, S7.out⟩ ?_
            (try simp only [Act.put])
            refine anyU_takeD (i := 9) (v := .tuple #[.slice p7 (U.length + 1 : Nat) c7, .int .i64 0]) 57 rfl rfl (by kernel_rfl) (by kernel_rfl) (by kernel_rfl) (fun _ _ _ h => h) (by kernel_rfl) ((Ext.stable W).and (fun y z h k => h.below k)) (fun z hz => hz.1) (yieldsU_val rfl (fun u hu => by go_simp)) ?_
            refine anyU_takeD (i := 10) (v := .slice p7 (U.length + 1 : Nat) c7) 67 rfl rfl (by kernel_rfl) (by kernel_rfl) (by kernel_rfl) (fun _ _ _ h => h) (by kernel_rfl) ((Ext.stable W).and (fun y z h k => h.below k)) (fun z hz => hz.1) (yieldsU_val rfl (fun u hu => by go_simp)) ?_
            refine anyU_takeD (i := 11) (v := .int .i64 0) 68 rfl rfl (by kernel_rfl) (by kernel_rfl) (by kernel_rfl) (fun _ _ _ h => h) (by kernel_rfl) ((Ext.stable W).and (fun y z h k => h.below k)) (fun z hz => hz.1) (yieldsU_val rfl (fun u hu => by go_simp)) ?_
            refine anyU_takeD (i := 12) (v := .slice p7 (U.length + 1 : Nat) c7) 17 rfl rfl (by kernel_rfl) (by kernel_rfl) (by kernel_rfl) (fun _ _ _ h => h) (by kernel_rfl) ((Ext.stable W).and (fun y z h k => h.below k)) (fun z hz => hz.1) (yieldsU_val rfl (fun u hu => by go_simp)) ?_
            simp only [Act.put, List.setIfInBounds_toArray, List.set_cons_succ, List.set_cons_zero]
            refine anyU_tail 13 [] rfl rfl (by decide) (by kernel_rfl) ?_
            intro u8 hu8
            simp only [Act.put, List.filterMap_cons, List.filterMap_nil, List.getElem?_cons_succ, List.getElem?_cons_zero]
            have B8 := Lib.hid (bel_trans B5.out hu8.1)
            have S8 := Lib.hid hu8.2
            clear hu8 E7 S7
            go_wp2_with fail
            go_roundw
            case rel =>
              refine ⟨j + 1, putD U d ip, p7, c7, by omega, by rw [HPL.out]; omega, by simp, by rw [HPL.out], by rw [HPL.out]; simp, Lib.hid (by rw [HPL.out]; exact S8.out), HDP, Lib.hid (put_adj AU.out HIP.out HHU.out), Lib.hid fun e => ?_, B8⟩
              rw [take_mem HKL.out, HDK.out, put_mem, MU.out]
              constructor
              · rintro (h | h)
                · exact .inr h
                · exact .inl h
              · rintro (h | h)
                · exact .inr h
                · exact .inl h
            case measure => simp [intOf]; omega
    · obtain rfl : k = n := by omega
      have t1 : ¬ ((k : Int) < k) := by omega
      go_upto_region 29 with fail
      go_loopw [10, 80] (fun x i wr => ∃ (j : Nat) (V : List (List Int)) (p2 : Option Addr) (c2 : Nat), j ≤ k ∧ V.length ≤ j ∧ i = .int .i64 j ∧ x = .slice p2 (V.length : Nat) c2 ∧ Hid (SrcL wr p2 V.length c2 V) ∧ Hid (Dgs V) ∧ Hid (adjOK V) ∧ Hid (∀ e, e ∈ V ↔ e ∈ l.drop (k - j)) ∧ Hid (Below w.heap.size w wr) ∧ Hid (SrcL wr p1 U.length c1 U)) (fun _ i _ => k - (intOf i).toNat)
      case atStart => exact ⟨0, [], none, 0, by omega, Nat.le_refl _, rfl, rfl, Lib.hid ⟨rfl, Nat.le_refl _, by decide, .inl ⟨rfl, fun _ => rfl⟩⟩, Lib.hid Dgs.nil, Lib.hid (fun j hj => by simp at hj), Lib.hid (fun e => by rw [Nat.sub_zero, List.drop_of_length_le (by have := hnl.out; omega)]), B2, U2⟩
      case round =>
        clear B2 U2
        obtain ⟨j, V, p2, c2, hjk, hVj, rfl, rfl, V4, DV, AV, MV, B4, U4⟩ := hrel
        by_cases hjl : j < k
        · have t1 : (j : Int) < k := by omega
          obtain ⟨b, off, rfl, hlt0, hb0⟩ := hz.out.pos (by omega)
          have hlt := Lib.hid hlt0
          have HBY := Lib.hid hb0
          clear hlt0 hb0
          obtain ⟨q, hq⟩ : ∃ q : Nat, k - 1 - j = q := ⟨_, rfl⟩
          have hqz : (k : Int) - 1 - j = (q : Int) := by omega
          have HQ := Lib.hid hqz.symm
          have hqk : k - (j + 1) = q := by omega
          have HQL := Lib.hid (show q < l.length by rw [← hnl.out]; omega)
          have h0 : ¬ ((q : Int) < 0) := by omega
          have h1 : (q : Int) < k := by omega
          obtain ⟨d, hdq⟩ : ∃ x, l.getD q [] = x := ⟨_, rfl⟩
          have LD := Lib.hid (show d.length = 32 by rw [← hdq]; exact (hd.out.get HQL.out).1)
          have RD := Lib.hid (show ∀ z ∈ d, 0 ≤ z ∧ z ≤ 255 by rw [← hdq]; exact (hd.out.get HQL.out).2)
          have HDQ := Lib.hid hdq
          clear hdq
          have HOK := Lib.hid (st_ok LD.out RD.out HVN.out)
          have HTX := Lib.hid (st_tx LD.out HOK.out)
          obtain ⟨cc, ss, hsig⟩ := isSig xa (encL [.text d, .int vv])
          have HSIG := Lib.hid hsig
          have HCK := Lib.hid (show IsChk key d vv cc ss true from .inr ⟨HVN.out, by have := hsig.ver; rw [HKEY.out.eq] at this; exact this⟩)
          obtain ⟨ip, hip⟩ := isPos_ex AV.out d
          have HIP := Lib.hid hip
          clear hsig hip
          obtain ⟨mt, hmt⟩ : ∃ q, hasD V d = q := ⟨_, rfl⟩
          have HHV := Lib.hid hmt
          clear hmt
          go_upto_region 31 with fail
          cases mt with
          | true =>
            refine wp_region_any (by kernel_rfl) ?_
            change wpAny _ _ _ _ _ _ _ (World.drew _)
            generalize hWD : World.drew _ = W
            have B5 := Lib.hid (show Below w.heap.size w W by rw [← hWD]; exact B4.out.drew)
            have U5 := Lib.hid (show SrcL W p1 U.length c1 U by rw [← hWD]; exact U4.out.below ((Below.refl _ _).drew))
            have V5 := Lib.hid (show SrcL W p2 V.length c2 V by rw [← hWD]; exact V4.out.below ((Below.refl _ _).drew))
            have Z5 := Lib.hid (show BytesAt W b off l.flatten by rw [← hWD]; exact HBY.out.below B4.out.drew hlt.out)
            have lt5 := Lib.hid (show b < W.heap.size from Nat.lt_of_lt_of_le hlt.out B5.out.size)
            clear hWD
            have hCD : ∀ u, Ext W u → Ext W u := fun u hu => hu
            refine region_U (D := Ext W) (Ext W) [20] (Ext.refl W) ?_
            refine anyU_takeD (i := 0) (v := .slice p2 (V.length : Nat) c2) 84 rfl rfl (by kernel_rfl) (by kernel_rfl) (by kernel_rfl) (fun _ _ _ h => h) (by kernel_rfl) (Ext.stable _) hCD (yieldsU_val rfl (fun u0 hu => by go_simp)) ?_
            refine anyU_takeD (i := 1) (v := .int .i64 key) 85 rfl rfl (by kernel_rfl) (by kernel_rfl) (by kernel_rfl) (fun _ _ _ h => h) (by kernel_rfl) (Ext.stable _) hCD (yieldsU_val rfl (fun u0 hu => by go_simp)) ?_
            refine anyU_takeD (i := 2) (v := .int .u32 a) 86 rfl rfl (by kernel_rfl) (by kernel_rfl) (by kernel_rfl) (fun _ _ _ h => h) (by kernel_rfl) (Ext.stable _) hCD (yieldsU_val rfl (fun u0 hu => by go_simp)) ?_
            refine anyU_takeD (i := 3) (v := .int .i64 xa) 87 rfl rfl (by kernel_rfl) (by kernel_rfl) (by kernel_rfl) (fun _ _ _ h => h) (by kernel_rfl) (Ext.stable _) hCD (yieldsU_call rfl 20 _ _ rfl #[.int .u32 a] (by simp [Act.eval, Act.put]) (fun u => by go_simp) (fun u0 hu => (secret_is a xa _ HA0 HSA).mono fun q w' hq => by obtain ⟨h1, h2⟩ := hq; subst h2; exact ⟨h1, Below.refl _ _⟩)) ?_
            refine anyU_takeD (i := 4) (v := .slice (some ⟨b, off, none⟩) (k : Nat) cp) 88 rfl rfl (by kernel_rfl) (by kernel_rfl) (by kernel_rfl) (fun _ _ _ h => h) (by kernel_rfl) (Ext.stable _) hCD (yieldsU_val rfl (fun u0 hu => by go_simp)) ?_
            simp only [Act.put, List.setIfInBounds_toArray, List.set_cons_succ, List.set_cons_zero]
            refine anyU_takeD (i := 5) (v := .slice (some ⟨b, off, none⟩) (k : Nat) cp) 89 rfl rfl (by kernel_rfl) (by kernel_rfl) (by kernel_rfl) (fun _ _ _ h => h) (by kernel_rfl) (Ext.stable _) hCD (yieldsU_val rfl (fun u0 hu => by go_simp)) ?_
            refine anyU_takeD (i := 6) (v := .int .i64 (k : Int)) 90 rfl rfl (by kernel_rfl) (by kernel_rfl) (by kernel_rfl) (fun _ _ _ h => h) (by kernel_rfl) (Ext.stable _) hCD (yieldsU_val rfl (fun u0 hu => by go_simp)) ?_
            refine anyU_takeD (i := 7) (v := .int .i64 ((k : Int) - 1)) 91 rfl rfl (by kernel_rfl) (by kernel_rfl) (by kernel_rfl) (fun _ _ _ h => h) (by kernel_rfl) (Ext.stable _) hCD (yieldsU_val rfl (fun u0 hu => by go_simp <;> (rw [IntKind.wrap_i64]; omega))) ?_
            refine anyU_takeD (i := 8) (v := .int .i64 (j : Int)) 92 rfl rfl (by kernel_rfl) (by kernel_rfl) (by kernel_rfl) (fun _ _ _ h => h) (by kernel_rfl) (Ext.stable _) hCD (yieldsU_val rfl (fun u0 hu => by go_simp)) ?_
            refine anyU_takeD (i := 9) (v := .int .i64 (q : Int)) 93 rfl rfl (by kernel_rfl) (by kernel_rfl) (by kernel_rfl) (fun _ _ _ h => h) (by kernel_rfl) (Ext.stable _) hCD (yieldsU_val rfl (fun u0 hu => by go_simp <;> (rw [HQ.out]; rw [IntKind.wrap_i64]; omega))) ?_
            refine anyU_takeD (i := 10) (v := .pointer (some ⟨b, off + q * 32, none⟩)) 94 rfl rfl (by kernel_rfl) (by kernel_rfl) (by kernel_rfl) (fun _ _ _ h => h) (by kernel_rfl) (Ext.stable _) hCD (yieldsU_val rfl (fun u0 hu => by go_simp)) ?_
            simp only [Act.put, List.setIfInBounds_toArray, List.set_cons_succ, List.set_cons_zero]
            refine anyU_takeD (i := 11) (v := .agg (bv d).toArray) 95 rfl rfl (by kernel_rfl) (by kernel_rfl) (by kernel_rfl) (fun _ _ _ h => h) (by kernel_rfl) (Ext.stable _) hCD (yieldsU_of_C (yields_loadM (by rfl) (.tmp 94) rfl b (off + q * 32) rfl d LD.out (fun u0 hu => by rw [← HDQ.out]; exact flat_at hd.out (Z5.out.below hu lt5.out) HQL.out))) ?_
            refine anyU_takeD (i := 12) (v := .int .i64 m) 96 rfl rfl (by kernel_rfl) (by kernel_rfl) (by kernel_rfl) (fun _ _ _ h => h) (by kernel_rfl) (Ext.stable _) hCD (yieldsU_val rfl (fun u0 hu => by go_simp)) ?_
            refine anyU_takeD (i := 13) (v := .int .i64 vv) 97 rfl rfl (by kernel_rfl) (by kernel_rfl) (by kernel_rfl) (fun _ _ _ h => h) (by kernel_rfl) (Ext.stable _) hCD (yieldsU_call rfl 22 _ _ rfl #[.int .i64 m] (by simp [Act.eval, Act.put]) (fun u => by go_simp) (fun u0 hu => (value_is m vv _ HM0 HVV).mono fun q w' hq => by obtain ⟨h1, h2⟩ := hq; subst h2; exact ⟨h1, Below.refl _ _⟩)) ?_
            simp only [Act.put, List.setIfInBounds_toArray, List.set_cons_succ, List.set_cons_zero]
            refine anyU_takeD (i := 14) (v := .agg (stv d vv cc ss).toArray) 98 rfl rfl (by kernel_rfl) (by kernel_rfl) (by kernel_rfl) (fun _ _ _ h => h) (by kernel_rfl) (Ext.stable _) hCD (yieldsU_call rfl 27 _ _ rfl #[.int .i64 xa, .agg (bv d).toArray, .int .i64 vv] (by simp [Act.eval, Act.put]) (fun u => by go_simp) (fun u0 hu => rmake_is xa d vv cc ss _ LD HXA HOK HTX HSIG)) ?_
            refine anyU_takeD (i := 15) (v := .tuple #[.slice none 0 0, .int .i64 161]) 99 rfl rfl (by kernel_rfl) (by kernel_rfl) (by kernel_rfl) (fun _ _ _ h => h) (by kernel_rfl) (Ext.stable _) hCD (yieldsU_call rfl 16 _ _ rfl #[.slice p2 (V.length : Nat) c2, .int .i64 key, .agg (stv d vv cc ss).toArray] (by simp [Act.eval, Act.put]) (fun u => by go_simp) (fun u0 hu => spend_found key d vv cc ss V p2 V.length c2 _ LD RD DV (Lib.hid (V5.out.below hu)) (by omega) (Lib.hid ((hk.out.below B5.out).below hu)) AV HCK ip HIP HHV)) ?_
            simp only [Act.put, List.setIfInBounds_toArray, List.set_cons_succ, List.set_cons_zero]
            refine anyU_takeD (i := 16) (v := .tuple #[.slice none 0 0, .int .i64 161]) 83 rfl rfl (by kernel_rfl) (by kernel_rfl) (by kernel_rfl) (fun _ _ _ h => h) (by kernel_rfl) (Ext.stable _) hCD (yieldsU_val rfl (fun u0 hu => by go_simp)) ?_
            refine anyU_takeD (i := 17) (v := .slice none 0 0) 100 rfl rfl (by kernel_rfl) (by kernel_rfl) (by kernel_rfl) (fun _ _ _ h => h) (by kernel_rfl) (Ext.stable _) hCD (yieldsU_val rfl (fun u0 hu => by go_simp)) ?_
            refine anyU_takeD (i := 18) (v := .int .i64 161) 101 rfl rfl (by kernel_rfl) (by kernel_rfl) (by kernel_rfl) (fun _ _ _ h => h) (by kernel_rfl) (Ext.stable _) hCD (yieldsU_val rfl (fun u0 hu => by go_simp)) ?_
            refine anyU_takeD (i := 19) (v := .slice none 0 0) 20 rfl rfl (by kernel_rfl) (by kernel_rfl) (by kernel_rfl) (fun _ _ _ h => h) (by kernel_rfl) (Ext.stable _) hCD (yieldsU_val rfl (fun u0 hu => by go_simp)) ?_
            simp only [Act.put, List.setIfInBounds_toArray, List.set_cons_succ, List.set_cons_zero]
            refine anyU_tail 20 [] rfl rfl (by decide) (by kernel_rfl) ?_
            intro u6 hu6
            simp only [Act.put, List.filterMap_cons, List.filterMap_nil, List.getElem?_cons_succ, List.getElem?_cons_zero]
            have B6 := Lib.hid (bel_trans B5.out hu6)
            have U6 := Lib.hid (U5.out.below hu6)
            have V6 := Lib.hid (V5.out.below hu6)
            clear hu6
            go_wp2_with fail
            go_roundw
            case rel =>
              refine ⟨j + 1, V, p2, c2, by omega, by omega, by simp, rfl, V6, DV, AV, Lib.hid fun e => ?_, B6, U6⟩
              rw [show k - (j + 1) = q by omega, drop_mem HQL.out, HDQ.out, show q + 1 = k - j by omega, ← MV.out]
              constructor
              · intro h; exact .inr h
              · rintro (h | h)
                · rw [h]; exact has_iff.1 HHV.out
                · exact h
            case measure => simp [intOf]; omega
          | false =>
            refine wp_region_any (by kernel_rfl) ?_
            change wpAny _ _ _ _ _ _ _ (World.drew _)
            generalize hWD : World.drew _ = W
            have B5 := Lib.hid (show Below w.heap.size w W by rw [← hWD]; exact B4.out.drew)
            have U5 := Lib.hid (show SrcL W p1 U.length c1 U by rw [← hWD]; exact U4.out.below ((Below.refl _ _).drew))
            have V5 := Lib.hid (show SrcL W p2 V.length c2 V by rw [← hWD]; exact V4.out.below ((Below.refl _ _).drew))
            have Z5 := Lib.hid (show BytesAt W b off l.flatten by rw [← hWD]; exact HBY.out.below B4.out.drew hlt.out)
            have lt5 := Lib.hid (show b < W.heap.size from Nat.lt_of_lt_of_le hlt.out B5.out.size)
            clear hWD
            have hCD : ∀ u, Ext W u → Ext W u := fun u hu => hu
            refine region_U (D := Ext W) (Ext W) [20] (Ext.refl W) ?_
            refine anyU_takeD (i := 0) (v := .slice p2 (V.length : Nat) c2) 84 rfl rfl (by kernel_rfl) (by kernel_rfl) (by kernel_rfl) (fun _ _ _ h => h) (by kernel_rfl) (Ext.stable _) hCD (yieldsU_val rfl (fun u0 hu => by go_simp)) ?_
            refine anyU_takeD (i := 1) (v := .int .i64 key) 85 rfl rfl (by kernel_rfl) (by kernel_rfl) (by kernel_rfl) (fun _ _ _ h => h) (by kernel_rfl) (Ext.stable _) hCD (yieldsU_val rfl (fun u0 hu => by go_simp)) ?_
            refine anyU_takeD (i := 2) (v := .int .u32 a) 86 rfl rfl (by kernel_rfl) (by kernel_rfl) (by kernel_rfl) (fun _ _ _ h => h) (by kernel_rfl) (Ext.stable _) hCD (yieldsU_val rfl (fun u0 hu => by go_simp)) ?_
            refine anyU_takeD (i := 3) (v := .int .i64 xa) 87 rfl rfl (by kernel_rfl) (by kernel_rfl) (by kernel_rfl) (fun _ _ _ h => h) (by kernel_rfl) (Ext.stable _) hCD (yieldsU_call rfl 20 _ _ rfl #[.int .u32 a] (by simp [Act.eval, Act.put]) (fun u => by go_simp) (fun u0 hu => (secret_is a xa _ HA0 HSA).mono fun q w' hq => by obtain ⟨h1, h2⟩ := hq; subst h2; exact ⟨h1, Below.refl _ _⟩)) ?_
            refine anyU_takeD (i := 4) (v := .slice (some ⟨b, off, none⟩) (k : Nat) cp) 88 rfl rfl (by kernel_rfl) (by kernel_rfl) (by kernel_rfl) (fun _ _ _ h => h) (by kernel_rfl) (Ext.stable _) hCD (yieldsU_val rfl (fun u0 hu => by go_simp)) ?_
            simp only [Act.put, List.setIfInBounds_toArray, List.set_cons_succ, List.set_cons_zero]
            refine anyU_takeD (i := 5) (v := .slice (some ⟨b, off, none⟩) (k : Nat) cp) 89 rfl rfl (by kernel_rfl) (by kernel_rfl) (by kernel_rfl) (fun _ _ _ h => h) (by kernel_rfl) (Ext.stable _) hCD (yieldsU_val rfl (fun u0 hu => by go_simp)) ?_
            refine anyU_takeD (i := 6) (v := .int .i64 (k : Int)) 90 rfl rfl (by kernel_rfl) (by kernel_rfl) (by kernel_rfl) (fun _ _ _ h => h) (by kernel_rfl) (Ext.stable _) hCD (yieldsU_val rfl (fun u0 hu => by go_simp)) ?_
            refine anyU_takeD (i := 7) (v := .int .i64 ((k : Int) - 1)) 91 rfl rfl (by kernel_rfl) (by kernel_rfl) (by kernel_rfl) (fun _ _ _ h => h) (by kernel_rfl) (Ext.stable _) hCD (yieldsU_val rfl (fun u0 hu => by go_simp <;> (rw [IntKind.wrap_i64]; omega))) ?_
            refine anyU_takeD (i := 8) (v := .int .i64 (j : Int)) 92 rfl rfl (by kernel_rfl) (by kernel_rfl) (by kernel_rfl) (fun _ _ _ h => h) (by kernel_rfl) (Ext.stable _) hCD (yieldsU_val rfl (fun u0 hu => by go_simp)) ?_
            refine anyU_takeD (i := 9) (v := .int .i64 (q : Int)) 93 rfl rfl (by kernel_rfl) (by kernel_rfl) (by kernel_rfl) (fun _ _ _ h => h) (by kernel_rfl) (Ext.stable _) hCD (yieldsU_val rfl (fun u0 hu => by go_simp <;> (rw [HQ.out]; rw [IntKind.wrap_i64]; omega))) ?_
            refine anyU_takeD (i := 10) (v := .pointer (some ⟨b, off + q * 32, none⟩)) 94 rfl rfl (by kernel_rfl) (by kernel_rfl) (by kernel_rfl) (fun _ _ _ h => h) (by kernel_rfl) (Ext.stable _) hCD (yieldsU_val rfl (fun u0 hu => by go_simp)) ?_
            simp only [Act.put, List.setIfInBounds_toArray, List.set_cons_succ, List.set_cons_zero]
            refine anyU_takeD (i := 11) (v := .agg (bv d).toArray) 95 rfl rfl (by kernel_rfl) (by kernel_rfl) (by kernel_rfl) (fun _ _ _ h => h) (by kernel_rfl) (Ext.stable _) hCD (yieldsU_of_C (yields_loadM (by rfl) (.tmp 94) rfl b (off + q * 32) rfl d LD.out (fun u0 hu => by rw [← HDQ.out]; exact flat_at hd.out (Z5.out.below hu lt5.out) HQL.out))) ?_
            refine anyU_takeD (i := 12) (v := .int .i64 m) 96 rfl rfl (by kernel_rfl) (by kernel_rfl) (by kernel_rfl) (fun _ _ _ h => h) (by kernel_rfl) (Ext.stable _) hCD (yieldsU_val rfl (fun u0 hu => by go_simp)) ?_
            refine anyU_takeD (i := 13) (v := .int .i64 vv) 97 rfl rfl (by kernel_rfl) (by kernel_rfl) (by kernel_rfl) (fun _ _ _ h => h) (by kernel_rfl) (Ext.stable _) hCD (yieldsU_call rfl 22 _ _ rfl #[.int .i64 m] (by simp [Act.eval, Act.put]) (fun u => by go_simp) (fun u0 hu => (value_is m vv _ HM0 HVV).mono fun q w' hq => by obtain ⟨h1, h2⟩ := hq; subst h2; exact ⟨h1, Below.refl _ _⟩)) ?_
            simp only [Act.put, List.setIfInBounds_toArray, List.set_cons_succ, List.set_cons_zero]
            refine anyU_takeD (i := 14) (v := .agg (stv d vv cc ss).toArray) 98 rfl rfl (by kernel_rfl) (by kernel_rfl) (by kernel_rfl) (fun _ _ _ h => h) (by kernel_rfl) (Ext.stable _) hCD (yieldsU_call rfl 27 _ _ rfl #[.int .i64 xa, .agg (bv d).toArray, .int .i64 vv] (by simp [Act.eval, Act.put]) (fun u => by go_simp) (fun u0 hu => rmake_is xa d vv cc ss _ LD HXA HOK HTX HSIG)) ?_
            simp only [Act.put, List.setIfInBounds_toArray, List.set_cons_succ, List.set_cons_zero]
            refine anyU_one 15 5 _ rfl rfl (by kernel_rfl) ?_
            intro u6 hu
            go_wp2_with (go_at_call 16; refine (spend_ok key d vv cc ss V p2 V.length c2 u6 LD RD DV (Lib.hid (V5.out.below hu)) (by omega) (Lib.hid ((hk.out.below B5.out).below hu)) AV HCK ip HIP HHV).mono ?_; rintro e u7 ⟨v1, rfl, o1, hb⟩; have O7 := Lib.hid o1; have E7 := Lib.hid (bel_trans hu hb); clear hb o1)
            change ∃ C' : World → Prop, _ ∧ _ ∧ _ ∧ anyU _ _ _ _ _ _ 5 _ _ _
            have hdp : Dgs (putD V d ip) := DV.out.put LD.out RD.out ip
            have hpl : (putD V d ip).length = V.length + 1 := putD_len V d ip HIP.out.1
            have hO7 := O7.out
            rw [← hpl] at hO7
            obtain ⟨p7, c7, hv7, hs7⟩ := ownR_src hdp hO7
            subst v1
            rw [hpl] at hs7 ⊢
            have S7 := Lib.hid hs7
            have HDP := Lib.hid hdp
            have HPL := Lib.hid hpl
            clear hs7 hO7 O7 hu hdp hpl
            refine anchorF (fun z => Ext W z ∧ SrcL z p7 (V.length + 1) c7 (putD V d ip)) (fun z hz => hz.1) ((Ext.stable W).and (fun y z h k => h.below k)) ⟨E7.out, S7.out⟩ ?_
            (try simp only [Act.put])
            refine anyU_takeD (i := 16) (v := .tuple #[.slice p7 (V.length + 1 : Nat) c7, .int .i64 0]) 83 rfl rfl (by kernel_rfl) (by kernel_rfl) (by kernel_rfl) (fun _ _ _ h => h) (by kernel_rfl) ((Ext.stable W).and (fun y z h k => h.below k)) (fun z hz => hz.1) (yieldsU_val rfl (fun u hu => by go_simp)) ?_
            refine anyU_takeD (i := 17) (v := .slice p7 (V.length + 1 : Nat) c7) 100 rfl rfl (by kernel_rfl) (by kernel_rfl) (by kernel_rfl) (fun _ _ _ h => h) (by kernel_rfl) ((Ext.stable W).and (fun y z h k => h.below k)) (fun z hz => hz.1) (yieldsU_val rfl (fun u hu => by go_simp)) ?_
            refine anyU_takeD (i := 18) (v := .int .i64 0) 101 rfl rfl (by kernel_rfl) (by kernel_rfl) (by kernel_rfl) (fun _ _ _ h => h) (by kernel_rfl) ((Ext.stable W).and (fun y z h k => h.below k)) (fun z hz => hz.1) (yieldsU_val rfl (fun u hu => by go_simp)) ?_
            refine anyU_takeD (i := 19) (v := .slice p7 (V.length + 1 : Nat) c7) 20 rfl rfl (by kernel_rfl) (by kernel_rfl) (by kernel_rfl) (fun _ _ _ h => h) (by kernel_rfl) ((Ext.stable W).and (fun y z h k => h.below k)) (fun z hz => hz.1) (yieldsU_val rfl (fun u hu => by go_simp)) ?_
            simp only [Act.put, List.setIfInBounds_toArray, List.set_cons_succ, List.set_cons_zero]
            refine anyU_tail 20 [] rfl rfl (by decide) (by kernel_rfl) ?_
            intro u8 hu8
            simp only [Act.put, List.filterMap_cons, List.filterMap_nil, List.getElem?_cons_succ, List.getElem?_cons_zero]
            have B8 := Lib.hid (bel_trans B5.out hu8.1)
            have S8 := Lib.hid hu8.2
            have U8 := Lib.hid (U5.out.below hu8.1)
            clear hu8 E7 S7
            go_wp2_with fail
            go_roundw
            case rel =>
              refine ⟨j + 1, putD V d ip, p7, c7, by omega, by rw [HPL.out]; omega, by simp, by rw [HPL.out], Lib.hid (by rw [HPL.out]; exact S8.out), HDP, Lib.hid (put_adj AV.out HIP.out HHV.out), Lib.hid fun e => ?_, B8, U8⟩
              rw [show k - (j + 1) = q by omega, drop_mem HQL.out, HDQ.out, show q + 1 = k - j by omega, ← MV.out, put_mem]
            case measure => simp [intOf]; omega
        · obtain rfl : j = k := by omega
          have t1 : ¬ ((j : Int) < j) := by omega
          have hUV : U = V := sorted_ext U V AU.out AV.out fun e => by
            rw [MU.out, MV.out, Nat.sub_self, List.drop_zero, List.take_of_length_le (by have := hnl.out; omega)]
          subst hUV
          have SU := Lib.hid (U4.out.flat DU.out)
          have SV := Lib.hid (V4.out.flat DU.out)
          go_wp2_with (first
            | (go_at_call 18; refine (rsame_any p1 p2 U.length c1 c2 U.flatten wr SU SV (by omega)).mono ?_; rintro e w5 ⟨rfl, hb⟩; have B5 := Lib.hid (bel_trans B4.out hb); have U5 := Lib.hid (U4.out.below hb); clear hb)
            | (go_at_call 28; refine (rused_is U p1 U.length c1 true _ DU U5 (by omega) (Lib.hid ⟨fun _ => AU.out, fun _ => rfl⟩)).mono ?_; rintro e w6 ⟨rfl, hb⟩; have B6 := Lib.hid (bel_trans B5.out hb); clear hb))
          go_ret
          exact ⟨rfl, B6.out⟩
theorem stampsOnce_walk (a : Int) (l : List (List Int)) (p : Option Addr) (n cp : Nat) (m : Int) (w : World) (hd : Hid (Dgs l)) (hz : Hid (SrcL w p n cp l)) (hk : Hid (KeysAt w)) (HA0 : Hid (0 ≤ a ∧ a ≤ 4294967295)) (HM0 : Hid ((Lit.int .i64 m).wf = true)) :
    Calls Tryz.prog 7 #[.int .u32 a, .slice p n cp, .int .i64 m] w fun q w' => q = .returned (.bool true) ∧ Below w.heap.size w w' := by
  by_cases hn : n ≤ 12
  case neg => exact stampsOnce_many a l p n cp m w hd hz hk HA0 HM0 hn
  obtain ⟨key, hkey⟩ := isPw 4 (1 + a % 1073741788)
  exact stampsOnce_few a l p n cp m _ _ key w hd hz hk HA0 HM0 hn (Lib.hid rfl) (Lib.hid rfl) (Lib.hid (valZ_ok m)) (Lib.hid (sec_ok a)) (Lib.hid hkey)

namespace stampsOnce
theorem readable : ∀ t ∈ Tryz.f7.params.toList, Tryz.prog.readableRec t = true ∧ t < Tryz.prog.types.size := by
  rw [Tryz.params7]
  intro t ht
  simp only [List.mem_cons, List.not_mem_nil, or_false] at ht
  rcases ht with rfl | rfl | rfl
  all_goals exact ⟨by kernel_rfl, by decide +kernel⟩

set_option maxRecDepth 100000 in
theorem lifted (os : Os) (started : os.Started) (H : Type) (enc : TypeId × Value → H) :
    ReturnsInHanded {} Tryz.checked os 7 .any (fun w args => (Rows.stampsOnceSpec.pre enc Tryz.prog Tryz.f7 [] false w args ∧ laidMetH Tryz.prog laidK w) ∧ sizedMet enc Tryz.prog Tryz.f7 (OpenSpec.ofChange Rows.stampsOnceSpec) false w args)
      (Rows.stampsOnceSpec.post enc Tryz.prog Tryz.f7 false true false false) := by
  refine returnsInHanded_of_change_and (C := Tryz.checked) (X := fun w _ => laidMetH Tryz.prog laidK w) (fun _ _ _ hh h => h.of_heap hh) own_knob started (by kernel_rfl) Tryz.func7
    (ChangeSpec.witness_shaped (enc := enc) (C := Tryz.checked) (os := os) (X := fun w _ => laidMetH Tryz.prog laidK w) false (World.doorLaid Tryz.prog 400 os) #[.int .u32 0, .slice none 0 0, .int .i64 0] 8 rfl (World.shaped_of_RefB (by kernel_rfl) (by kernel_rfl)) (by kernel_rfl) (by kernel_rfl) (by kernel_rfl) (door_met os _)) ?_
  intro W base args ds gs before hval0 hW _ _ hL _
  have hval : ∀ (j : Nat) t v, Tryz.f7.params[j]? = some t → args[j]? = some v → Value.okWide Tryz.prog W .any base t v := hval0
  have hW' := hW
  obtain ⟨p, q, hA0, hV, rfl, hfz, hnd⟩ := hW
  have hA : DataW.TrodAll enc Tryz.prog W 0 (fun _ => true) true Tryz.f7.params.toList args.toList ds p := hA0
  rw [Tryz.params7] at hA hval
  obtain ⟨v0, vs0, d0, ds0, p0, q0, hargs, rfl, rfl, h0, r0⟩ := trodAll_cons hA
  obtain ⟨v1, vs1, d1, ds1, p1, q1, rfl, rfl, rfl, h1, r1⟩ := trodAll_cons r0
  obtain ⟨v2, vs2, d2, ds2, p2, q2, rfl, rfl, rfl, h2, r2⟩ := trodAll_cons r1
  obtain ⟨rfl, rfl, rfl⟩ := trodAll_nil r2
  obtain rfl : args = #[v0, v1, v2] := by cases args; simp_all
  obtain ⟨rfl, rfl⟩ := trodVars_none hV
  obtain ⟨a0, rfl, w0, x0⟩ := open_u32 Tryz.underlying42 (hval 0 42 v0 rfl rfl) h0
  obtain ⟨s1, n1, c1, l1, rfl, w1, x1⟩ := open_digs (hval 1 36 v1 rfl rfl) h1
  obtain ⟨a2, rfl, rfl, rfl, w2⟩ := open_int Tryz.underlying3 (hval 2 3 v2 rfl rfl) h2
  have hK := of_laid hL
  clear hA0 hval0
  refine (stampsOnce_walk a0 l1 s1 n1 c1 a2 W (Lib.hid x1) (Lib.hid w1) (Lib.hid hK) (Lib.hid ⟨w0, x0⟩) (Lib.hid w2)).mono fun e W' ⟨he, hb⟩ => ?_
  subst he
  exact ⟨_, rfl, law_post laid_out readable rfl rfl Tryz.underlying4 hW' rfl rfl rfl hb⟩

theorem over : Rows.stampsOnceRow.holds Tryz.pinned (OpenSpec.ofChange Rows.stampsOnceSpec) :=
  OpenClaim.holds_of_wide 7 Tryz.f7 rfl rfl rfl rfl rfl rfl rfl ⟨rfl, rfl, rfl, rfl, rfl⟩ rfl rfl rfl rfl rfl (by kernel_rfl) Tryz.func7 (by kernel_rfl)
    (of_decide_eq_true (by kernel_rfl)) (by unfold Func.isWrapper; first | (rw [if_pos (by decide +kernel)]; kernel_rfl) | (rw [if_neg (by decide +kernel)]; exact ⟨rfl, rfl⟩))
    (fun os started H enc _ => lifted os started H enc)

/-- the statement: the tied card -/
theorem proved : Rows.StampsOnceCardSaid :=
  Claim7.holds_tied_plain_at .later [] [.data] true (true, "08aa77cb6b5e7032e714fb6e8234f1d1e81e8e126b602c27ba0bf5d0ec3bd074") true
    over (fun _ h => by cases h) (by kernel_rfl) (fun _ h => by cases h) stampsOnce_row_tie rfl ⟨rfl, rfl⟩ (by kernel_rfl) rfl
    (fun f fn hf hfn => by
      obtain rfl : f = 7 := Option.some.inj ((show Tryz.prog.funcNamed "franking/frankinglaw37.StampsOnce" = some 7 by kernel_rfl).symm.trans hf) |>.symm
      obtain rfl : fn = Tryz.f7 := (Option.some.inj (Tryz.func7.symm.trans hfn)).symm
      exact ⟨by kernel_rfl, fun j t ht => by
        rw [Tryz.params7] at ht
        have hm : t ∈ [42, 36, 3] := by simpa using Array.mem_of_getElem? ht
        have hall : ([42, 36, 3].all fun u => !Tryz.prog.wantsStandIn u) = true := by kernel_rfl
        exact (show Tryz.prog.wantsStandIn t = false by simpa using List.all_eq_true.1 hall t hm)⟩)
    (by kernel_rfl)
end stampsOnce
end Go.Proofs.YtjdkdhpippapmaaGreatDoor
