/- The reference of layer 8: Text. -/
import Derived.Test.YtllcgehfmkmcdaaDoorChnHd
import Derived.Test.YtllcgehfmkmcdaaDoorChnSn0
namespace Go.Proofs.YtllcgehfmkmcdaaDoor
open Go.RowKit
set_option linter.unusedVariables false
set_option linter.unusedSimpArgs false

theorem rtext_nil (p : Option Addr) (c : Nat) (w : World) : Calls Tryd.prog 32 #[.slice p 0 c] w fun e w' => e = .returned (.tuple #[.string ⟨#[110, 111, 110, 101]⟩, .slice none 0 0]) ∧ Below w.heap.size w w' := by
  go_enter Tryd.func32, Tryd.ntmps32
  go_wp2_with fail
  go_ret2
  exact ⟨rfl, Below.refl _ w⟩
set_option maxRecDepth 100000 in
set_option maxHeartbeats 8000000 in
theorem rtext_link (p : Option Addr) (n c k : Nat) (ls : List Lk) (w : World) (hs : Hid (LksV w p n c ls)) (hn : n = k + 1) (hm : n ≤ 2000) (hsm : Hid (LkSm (ls.getD k lk0))) :
    Calls Tryd.prog 32 #[.slice p n c] w fun e w' => ∃ v, e = .returned (.tuple #[.string ⟨#[108, 105, 110, 107]⟩, v]) ∧ Own8 w' w.heap.size v (lkT (ls.getD k lk0)) ∧ Below w.heap.size w w' := by
  subst hn
  obtain ⟨b, off, rfl, hb, hr, hl⟩ := hs.out.at (i := k) (by omega)
  obtain ⟨x, hx⟩ : ∃ x, ls.getD k lk0 = x := ⟨_, rfl⟩
  rw [hx] at hr hl hsm ⊢
  have hcap := hs.out.nc
  have hcm := hs.out.cm
  have hpl := Lib.hid hl.len
  have SX0 := Lib.hid hl.src
  clear hx
  obtain ⟨s1, hs1⟩ : ∃ s, strB x.prev = s := ⟨_, rfl⟩
  obtain ⟨s2, hs2⟩ : ∃ s, strB x.bs = s := ⟨_, rfl⟩
  have S1 := Lib.hid hs1
  have S2 := Lib.hid hs2
  clear hs1 hs2 hs
  have R0 := Lib.hid hr
  clear hr hl
  go_enter Tryd.func32, Tryd.ntmps32
  go_wp2_with (first
    | (refine list_loadK (by rfl) (.tmp 16) rfl b (off + k * 35) rfl x hpl.out R0.out ?_)
    | (refine list_storeK rfl (.tmp 4) (.tmp 17) rfl w.heap.size rfl x rfl hpl.out lk0 (KBlk.new w) ?_))
  intro w2 K2 k2
  have B2 := Lib.hid (show Below w.heap.size w w2 from (bel_alloc1 w _).trans (k2.below (Nat.le_refl _)))
  have K2 := Lib.hid K2
  have hsz := Lib.hid (show w2.heap.size = w.heap.size + 1 by rw [k2.size]; simp)
  clear k2
  obtain ⟨xb, hxb⟩ : ∃ xb, w.heap.size = xb := ⟨_, rfl⟩
  obtain ⟨B, hB⟩ : ∃ B, w2.heap.size = B := ⟨_, rfl⟩
  have hBW := Lib.hid hB
  have hxB : xb < B := by have := hsz.out; omega
  rw [hxb] at K2 ⊢
  go_wp2_with fail
  go_loopw [5, 6] (fun v i wr => ∃ k : Nat, i = .int .i64 (k : Int) ∧ k ≤ 32 ∧ ∃ u, u = v ∧ Hid (Own8 wr B u (x.prev.take k)) ∧ Hid (KBlk wr xb x) ∧ Hid (Below B w2 wr)) (fun _ i _ => 32 - (intOf i).toNat)
  case atStart => exact ⟨0, by simp, by omega, _, rfl, Lib.hid (World.ownsRow_nil _ _ _ _), K2, Lib.hid (Below.refl _ _)⟩
  case round =>
    obtain ⟨j, rfl, hj, v, rfl, HO, HK, HB⟩ := hrel
    by_cases hlt : j < 32
    · have hkl : j < x.prev.length := by rw [hpl.out]; exact hlt
      have cc := HK.out.cells.2.2.1 j hkl
      obtain ⟨z, hz⟩ : ∃ z, x.prev.getD j 0 = z := ⟨_, rfl⟩
      rw [hz] at cc
      have HT := Lib.hid (show x.prev.take (j + 1) = x.prev.take j ++ [z] by rw [← hz, List.take_add_one, List.getElem?_eq_getElem hkl]; simp [List.getD, hkl])
      have hbw : xb < wr.heap.size := HK.out.lt
      have hkk : (x.prev.take j).length ≤ 32 := by rw [List.length_take]; omega
      have hBr : B ≤ wr.heap.size := by have := HB.out.size; have := hBW.out; omega
      clear hz hkl
      go_wp2_with (at_builtin; refine app8w rfl (.tmp 22) (.tmp 27) rfl B v (x.prev.take j) rfl (own8_below HO.out (bel_alloc1 wr _)) (some ⟨wr.heap.size, 0, none⟩) 1 1 [z] rfl ?c1 ?c2 ?c3 ?_)
      case c1 => exact src1 (Blk.new wr #[.int .u8 z] _) (by simp)
      case c2 => simp only [List.length_cons, List.length_nil]; omega
      case c3 => rw [World.size_alloc]; omega
      intro v3 w3 ho hg
      have HB3 := Lib.hid (show Below B w2 w3 from bel_grown8 (HB.out.alloc hBr _) (own8_below HO.out (bel_alloc1 wr _)) hg (by rw [World.size_alloc]; omega))
      have HO3 := Lib.hid ho
      have HK3 := Lib.hid (show KBlk w3 xb x from ⟨K2.out.1.below HB3.out hxB, hpl.out⟩)
      clear ho hg
      go_wp2_with fail
      go_roundw
      case rel => exact ⟨j + 1, by simp, by omega, v3, rfl, Lib.hid (by rw [HT.out]; exact HO3.out), HK3, HB3⟩
      case measure => simp [intOf]; omega
    · obtain rfl : j = 32 := by omega
      have hO := HO.out
      rw [List.take_of_length_le (by rw [hpl.out]; exact Nat.le_refl _)] at hO
      obtain ⟨pv, cv, hv, hz⟩ := own8_tag hO
      rw [hpl.out] at hv hz
      subst hv
      have PV := Lib.hid hz
      have BW := Lib.hid (show Below w.heap.size w wr from B2.out.trans (HB.out.mono (by have := hsz.out; have := hBW.out; omega)))
      clear hO hz HO
      go_upto_region 9 with fail
      refine wp_region_any (by kernel_rfl) ?_
      change wpAny _ _ _ _ _ _ _ (World.drew _)
      generalize hWD : World.drew _ = V
      have BX := Lib.hid (show Below w.heap.size w V by rw [← hWD]; exact BW.out.drew)
      have KX := Lib.hid (show KBlk V xb x by rw [← hWD]; exact HK.out)
      have PX := Lib.hid (show SrcW V pv 32 cv x.prev by rw [← hWD]; exact PV.out.below (Below.refl _ _).drew)
      have SX := Lib.hid (SX0.out.below BX.out)
      clear hWD BW HK PV HB
      have hCD : ∀ u, Ext V u → Ext V u := fun u hu => hu
      refine region_U (D := Ext V) (Ext V) [18] (Ext.refl V) ?_
      refine anyU_takeP (i := 0) (j := 18) (v := .pointer (some ⟨xb, 0, none⟩)) 30 [] rfl rfl (by kernel_rfl) (by kernel_rfl) (by kernel_rfl) (fun _ _ _ h => h) (by kernel_rfl) (Ext.stable _) hCD (yieldsU_val rfl (fun u hu => by go_simp)) ?_
      refine anyU_takeP (i := 1) (j := 18) (v := .int .i64 x.node) 31 [] rfl rfl (by kernel_rfl) (by kernel_rfl) (by kernel_rfl) (fun _ _ _ h => h) (by kernel_rfl) (Ext.stable _) hCD (yieldsU_val rfl (fun u hu => by obtain ⟨q0, q1, q2, q3⟩ := (KX.out.bel hu).cells; go_simp)) ?_
      refine anyU_takeP (i := 2) (j := 18) (v := .agg #[.int .i64 1, .int .i64 x.node, .string ⟨#[]⟩, .slice none 0 0]) 32 [] rfl rfl (by kernel_rfl) (by kernel_rfl) (by kernel_rfl) (fun _ _ _ h => h) (by kernel_rfl) (Ext.stable _) hCD (yieldsU_call rfl 38 _ _ rfl #[.int .i64 x.node] (by simp [Act.eval, Act.put]) (fun u => by go_simp) (fun u hu => rcnum_is x.node u)) ?_
      simp only [Act.put, List.setIfInBounds_toArray, List.set_cons_succ, List.set_cons_zero]
      refine anyU_takeP (i := 3) (j := 18) (v := .pointer (some ⟨xb, 1, none⟩)) 33 [] rfl rfl (by kernel_rfl) (by kernel_rfl) (by kernel_rfl) (fun _ _ _ h => h) (by kernel_rfl) (Ext.stable _) hCD (yieldsU_val rfl (fun u hu => by go_simp)) ?_
      refine anyU_takeP (i := 4) (j := 18) (v := .int .i64 x.no) 34 [] rfl rfl (by kernel_rfl) (by kernel_rfl) (by kernel_rfl) (fun _ _ _ h => h) (by kernel_rfl) (Ext.stable _) hCD (yieldsU_val rfl (fun u hu => by obtain ⟨q0, q1, q2, q3⟩ := (KX.out.bel hu).cells; go_simp)) ?_
      refine anyU_takeP (i := 5) (j := 18) (v := .agg #[.int .i64 1, .int .i64 x.no, .string ⟨#[]⟩, .slice none 0 0]) 35 [] rfl rfl (by kernel_rfl) (by kernel_rfl) (by kernel_rfl) (fun _ _ _ h => h) (by kernel_rfl) (Ext.stable _) hCD (yieldsU_call rfl 38 _ _ rfl #[.int .i64 x.no] (by simp [Act.eval, Act.put]) (fun u => by go_simp) (fun u hu => rcnum_is x.no u)) ?_
      simp only [Act.put, List.setIfInBounds_toArray, List.set_cons_succ, List.set_cons_zero]
      refine anyU_takeP (i := 6) (j := 18) (v := .slice pv 32 cv) 36 [] rfl rfl (by kernel_rfl) (by kernel_rfl) (by kernel_rfl) (fun _ _ _ h => h) (by kernel_rfl) (Ext.stable _) hCD (yieldsU_val rfl (fun u hu => by go_simp)) ?_
      refine anyU_takeP (i := 7) (j := 18) (v := .agg #[.int .i64 2, .int .i64 0, .string s1, .slice none 0 0]) 37 [] rfl rfl (by kernel_rfl) (by kernel_rfl) (by kernel_rfl) (fun _ _ _ h => h) (by kernel_rfl) (Ext.stable _) hCD (yieldsU_call rfl 39 _ _ rfl #[.slice pv 32 cv] (by simp [Act.eval, Act.put]) (fun u => by go_simp) (fun u hu => rctxt_is pv 32 cv x.prev s1 u (Lib.hid (PX.out.below hu)) S1)) ?_
      simp only [Act.put, List.setIfInBounds_toArray, List.set_cons_succ, List.set_cons_zero]
      refine anyU_takeP (i := 8) (j := 18) (v := .pointer (some ⟨xb, 34, none⟩)) 38 [] rfl rfl (by kernel_rfl) (by kernel_rfl) (by kernel_rfl) (fun _ _ _ h => h) (by kernel_rfl) (Ext.stable _) hCD (yieldsU_val rfl (fun u hu => by go_simp)) ?_
      refine anyU_takeP (i := 9) (j := 18) (v := .slice x.p x.m x.c) 39 [] rfl rfl (by kernel_rfl) (by kernel_rfl) (by kernel_rfl) (fun _ _ _ h => h) (by kernel_rfl) (Ext.stable _) hCD (yieldsU_val rfl (fun u hu => by obtain ⟨q0, q1, q2, q3⟩ := (KX.out.bel hu).cells; go_simp)) ?_
      refine anyU_takeP (i := 10) (j := 18) (v := .agg #[.int .i64 2, .int .i64 0, .string s2, .slice none 0 0]) 40 [] rfl rfl (by kernel_rfl) (by kernel_rfl) (by kernel_rfl) (fun _ _ _ h => h) (by kernel_rfl) (Ext.stable _) hCD (yieldsU_call rfl 39 _ _ rfl #[.slice x.p x.m x.c] (by simp [Act.eval, Act.put]) (fun u => by go_simp) (fun u hu => rctxt_is x.p x.m x.c x.bs s2 u (Lib.hid (SX.out.below hu)) S2)) ?_
      simp only [Act.put, List.setIfInBounds_toArray, List.set_cons_succ, List.set_cons_zero]
      refine anyU_one 11 7 _ rfl rfl (by kernel_rfl) ?_
      intro u1 hu
      go_wp2_with fail
      change ∃ C' : World → Prop, _ ∧ _ ∧ _ ∧ anyU _ _ _ _ _ _ 7 _ _ _
      have Z1 := Lib.hid (Blk.new u1 #[.int .i64 1, .int .i64 x.node, .string ⟨#[]⟩, .slice none 0 0, .int .i64 1, .int .i64 x.no, .string ⟨#[]⟩, .slice none 0 0, .int .i64 2, .int .i64 0, .string s1, .slice none 0 0, .int .i64 2, .int .i64 0, .string s2, .slice none 0 0] 54)
      have E1 := Lib.hid (Ext.trans hu (bel_alloc1 u1 (.cells #[.int .i64 1, .int .i64 x.node, .string ⟨#[]⟩, .slice none 0 0, .int .i64 1, .int .i64 x.no, .string ⟨#[]⟩, .slice none 0 0, .int .i64 2, .int .i64 0, .string s1, .slice none 0 0, .int .i64 2, .int .i64 0, .string s2, .slice none 0 0] 54)))
      generalize World.alloc u1 _ = u2 at Z1 E1 ⊢
      generalize u1.heap.size = bb at Z1 ⊢
      clear hu
      have hST1 : Stable (fun z => Ext V z ∧ Blk z bb #[.int .i64 1, .int .i64 x.node, .string ⟨#[]⟩, .slice none 0 0, .int .i64 1, .int .i64 x.no, .string ⟨#[]⟩, .slice none 0 0, .int .i64 2, .int .i64 0, .string s1, .slice none 0 0, .int .i64 2, .int .i64 0, .string s2, .slice none 0 0] 54) := ((Ext.stable V).and (fun y z h k => h.below k h.lt))
      have hF1 : ∀ z, (fun z => Ext V z ∧ Blk z bb #[.int .i64 1, .int .i64 x.node, .string ⟨#[]⟩, .slice none 0 0, .int .i64 1, .int .i64 x.no, .string ⟨#[]⟩, .slice none 0 0, .int .i64 2, .int .i64 0, .string s1, .slice none 0 0, .int .i64 2, .int .i64 0, .string s2, .slice none 0 0] 54) z → Ext V z := fun z hz => hz.1
      refine anchorF (fun z => Ext V z ∧ Blk z bb #[.int .i64 1, .int .i64 x.node, .string ⟨#[]⟩, .slice none 0 0, .int .i64 1, .int .i64 x.no, .string ⟨#[]⟩, .slice none 0 0, .int .i64 2, .int .i64 0, .string s1, .slice none 0 0, .int .i64 2, .int .i64 0, .string s2, .slice none 0 0] 54) (fun z hz => hz.1) hST1 ⟨E1.out, Z1.out⟩ ?_
      (try simp only [Act.put])
      refine anyU_takeP (i := 12) (j := 18) (v := .agg #[.int .i64 3, .int .i64 0, .string ⟨#[]⟩, .slice (some ⟨bb, 0, none⟩) 4 4]) 42 [] rfl rfl (by kernel_rfl) (by kernel_rfl) (by kernel_rfl) (fun _ _ _ h => h) (by kernel_rfl) hST1 hF1 (yieldsU_val rfl (fun u hu => by go_simp)) ?_
      simp only [Act.put, List.setIfInBounds_toArray, List.set_cons_succ, List.set_cons_zero]
      refine anyU_one 13 5 _ rfl rfl (by kernel_rfl) ?_
      intro u3 hu3
      have Z3 := Lib.hid hu3.2
      have E3 := Lib.hid hu3.1
      clear hu3
      go_wp2_with (go_at_call 37; refine (rEncode_list (lkA x) bb 0 4 4 _ (Lib.hid rfl) (by omega) (Lib.hid hsm.out.ok) Z3.out.lt (Lib.hid (lk_atoms Z3.out S1.out S2.out)) (Lib.hid (by have := hsm.out.len; omega))).mono ?_; rintro e u4 ⟨v5, rfl, o4, hb⟩; have O4 := Lib.hid (own8_mono o4 E3.out.size); have B4 := Lib.hid (Ext.trans E3.out hb); clear o4 hb)
      change ∃ C' : World → Prop, _ ∧ _ ∧ _ ∧ anyU _ _ _ _ _ _ 5 _ _ _
      have hST2 : Stable (fun z => Ext V z ∧ Own8 z V.heap.size v5 (lkT x)) := ((Ext.stable V).and (fun y z h k => own8_below h k))
      have hF2 : ∀ z, (fun z => Ext V z ∧ Own8 z V.heap.size v5 (lkT x)) z → Ext V z := fun z hz => hz.1
      refine anchorF (fun z => Ext V z ∧ Own8 z V.heap.size v5 (lkT x)) (fun z hz => hz.1) hST2 ⟨B4.out, O4.out⟩ ?_
      (try simp only [Act.put])
      refine anyU_takeP (i := 14) (j := 18) (v := .tuple #[v5, .int .i64 0]) 29 [] rfl rfl (by kernel_rfl) (by kernel_rfl) (by kernel_rfl) (fun _ _ _ h => h) (by kernel_rfl) hST2 hF2 (yieldsU_val rfl (fun u hu => by go_simp)) ?_
      refine anyU_takeP (i := 15) (j := 18) (v := v5) 44 [] rfl rfl (by kernel_rfl) (by kernel_rfl) (by kernel_rfl) (fun _ _ _ h => h) (by kernel_rfl) hST2 hF2 (yieldsU_val rfl (fun u hu => by go_simp)) ?_
      refine anyU_takeP (i := 16) (j := 18) (v := .int .i64 0) 45 [] rfl rfl (by kernel_rfl) (by kernel_rfl) (by kernel_rfl) (fun _ _ _ h => h) (by kernel_rfl) hST2 hF2 (yieldsU_val rfl (fun u hu => by go_simp)) ?_
      simp only [Act.put, List.setIfInBounds_toArray, List.set_cons_succ, List.set_cons_zero]
      refine anyU_one 17 1 _ rfl rfl (by kernel_rfl) ?_
      intro u5 hu5
      go_wp2_with fail
      change ∃ C' : World → Prop, _ ∧ _ ∧ _ ∧ anyU _ _ _ _ _ _ 1 _ _ _
      refine anchorF (fun z => Ext V z ∧ Own8 z V.heap.size v5 (lkT x)) (fun z hz => hz.1) hST2 hu5 ?_
      (try simp only [Act.put])
      refine anyU_tail 18 [] rfl rfl (by decide) (by kernel_rfl) ?_
      intro u6 hu6
      simp only [Act.put, List.filterMap_cons, List.filterMap_nil, List.getElem?_cons_succ, List.getElem?_cons_zero]
      have O6 := Lib.hid hu6.2
      have B6 := Lib.hid (bel_trans BX.out hu6.1)
      clear hu6 hST2 hF2 hST1 hF1
      go_wp2_with fail
      go_ret2
      exact ⟨v5, rfl, own8_mono O6.out BX.out.size, B6.out⟩
end Go.Proofs.YtllcgehfmkmcdaaDoor
