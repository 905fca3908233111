/- CalendarMore: the walk, no rule, a gap less. -/
import Derived.Test.YtilokkkodocoiaaCalRw
import Derived.Test.YtilokkkodocoiaaCalMr
import Derived.Test.YtilokkkodocoiaaCalWit
namespace Go.Proofs.Ytilokkkodocoiaa
open Go.RowKit
set_option linter.unusedVariables false
set_option linter.unusedSimpArgs false
set_option maxRecDepth 100000 in
set_option maxHeartbeats 40000000 in
theorem cmore_0k (p : Option Addr) (n c : Nat) (rs : List Rl) (q : Option Addr) (m d : Nat) (gs : List Gp) (a b av cv : Int) (w : World) (hr : Hid (RulesV w p n c rs)) (hg : Hid (GapsV w q m d gs)) (hE : Hid (momE rs gs a b = 0)) (ha0 : 0 ≤ av) (ha1 : av ≤ 255) (hc0 : 0 ≤ cv) (hc1 : cv ≤ 255) (h0 : n = 0) (j : Nat) (hj : j < m) (hm2 : Int.tmod cv (m : Int) = (j : Int)) (g1 g2 : Int) (hG : Hid (gs.getD j gp0 = (g1, g2))) (gs' : List Gp) (hGS : Hid (gs.take j ++ gs.drop (j + 1) = gs')) (KG : List Int) (hEG : Hid (momE rs gs' a b = 0)) (hKG : Hid (momR rs gs' a b = KG)) (f : Int → Bool) (hF : Hid (f = fun t => !gapB (g1, g2) t)) (hFG : Hid (KG.filter f = momR rs gs a b)) :
    Calls Try.prog 8 #[.slice p n c, .slice q m d, .int .i64 a, .int .i64 b, .int .u8 av, .int .u8 cv] w fun e w' => e = .returned (.bool true) ∧ Below w.heap.size w w' := by
  subst h0
  have hnc := hr.out.nc
  have hcm := hr.out.cm
  have hmd := hg.out.nc
  have hdm := hg.out.cm
  have hmn : m ≤ 2000 := by have := (chk_valid (mom_zero hE.out).1).2.2; have := hg.out.len; omega
  have hnn : 0 ≤ 2000 := by have := (chk_valid (mom_zero hE.out).1).2.1; have := hr.out.len; omega
  have hrl : rs.length ≤ 2000 := by have := (chk_valid (mom_zero hE.out).1).2.1; omega
  have hgl : gs.length ≤ 2000 := by have := (chk_valid (mom_zero hE.out).1).2.2; omega
  go_enter Try.func8, Try.ntmps8
  have B0 := Lib.hid (Below.refl w.heap.size w)
  have R0 := hr
  have G0 := hg
  clear hr hg
  go_upto_region 3 with (go_at_call 9; (with_reducible refine (sane19_any w).mono ?_); rintro e w1 ⟨rfl, hb⟩; have B1 := Lib.hid (bel_trans B0.out hb); have R1 := Lib.hid (R0.out.below hb); have G1 := Lib.hid (G0.out.below hb); clear hb)
  clear R0 G0 B0
  obtain ⟨L, hL⟩ := named (momR rs gs a b)
  have HN : L.length ≤ 2000 := by rw [← hL.out]; exact momR_len
  have d0 : decide ((2000 : Int) < (L.length : Int)) = false := decide_eq_false (by omega)
  go_upto_region 4 with (go_at_call 10; (with_reducible refine (cmom_ah p 0 c rs q m d gs a b w1 R1 G1 0 L hE hL).mono ?_); rintro e w2 ⟨v2, rfl, ho, hb⟩; have B2 := Lib.hid (bel_trans B1.out hb); have R2 := Lib.hid (R1.out.below hb); have G2 := Lib.hid (G1.out.below hb); have O2 := ho; clear ho; clear hb)
  clear R1 G1 B1
  obtain ⟨pl, cl, hvl, hl2⟩ := ownI_ints O2
  subst hvl
  have L2 := Lib.hid hl2
  have hcl := hl2.nc
  have hclm := hl2.cm
  clear hl2 O2
  have i1 : decide ((m : Int) = 0) = false := decide_eq_false (by omega)
  have i2 : ((m : Int) == 0) = false := by simp; omega
  have hwc : IntKind.i64.wrap cv = cv := by rw [IntKind.wrap_i64]; omega
  have hwj : IntKind.i64.wrap (j : Int) = (j : Int) := by rw [IntKind.wrap_i64]; omega
  have hwj1 : IntKind.i64.wrap ((j : Int) + 1) = (j : Int) + 1 := by rw [IntKind.wrap_i64]; omega
  have hj1i : (j : Int) + 1 ≤ (m : Int) := by omega
  have hji : (j : Int) ≤ (m : Int) := by omega
  go_upto_region 11 with fail
  have hGG := Lib.hid (show ∀ r ∈ gs', inI r.1 ∧ inI r.2 by
    rw [← hGS.out]; exact fun r h => (List.mem_append.1 h).elim (fun h => G2.out.rng r (List.mem_of_mem_take h)) (fun h => G2.out.rng r (List.mem_of_mem_drop h)))
  obtain ⟨b2, off2, hp2, hb2, c0, c1⟩ := G2.out.at hj
  rw [hG.out] at c0 c1
  dsimp only at c0 c1
  subst hp2
  go_upto_region 15 with fail
  have K3 := Lib.hid (Blk.new w2 #[.int .i64 g1, .int .i64 g2] 37)
  have hb := bel_alloc1 w2 (.cells #[.int .i64 g1, .int .i64 g2] 37)
  have B3 := Lib.hid (bel_trans B2.out hb)
  have R3 := Lib.hid (R2.out.below hb)
  have G3 := Lib.hid (G2.out.below hb)
  have L3 := Lib.hid (L2.out.below hb)
  clear hb c0 c1 hb2
  generalize World.alloc w2 _ = w3 at K3 B3 R3 G3 L3 ⊢
  generalize w2.heap.size = gb at K3 ⊢
  clear R2 G2 L2 B2
  refine wp_region_any (by kernel_rfl) ?_
  change wpAny _ _ _ _ _ _ _ (World.drew _)
  generalize hWD : World.drew _ = V
  have hb : Below w3.heap.size w3 V := by rw [← hWD]; exact (Below.refl _ _).drew
  have BV := Lib.hid (bel_trans B3.out hb)
  have RV := Lib.hid (R3.out.below hb)
  have GV := Lib.hid (G3.out.below hb)
  have LV := Lib.hid (L3.out.below hb)
  have KV := Lib.hid (K3.out.below hb K3.out.lt)
  clear hWD hb
  obtain ⟨q2, hp2, hV2⟩ := GV.out.drop hj
  have HP2 := Lib.hid hp2
  have V2 := Lib.hid hV2
  have V1 := Lib.hid (GV.out.take (i := j) (by omega))
  clear hp2 hV2
  have hCD : ∀ u, Ext V u → Ext V u := fun u hu => hu
  refine region_U (D := Ext V) (Ext V) [18] (Ext.refl V) ?_
  refine anyU_takeP (i := 0) (j := 18) (v := .slice p 0 c) 89 [] rfl rfl (by kernel_rfl) (by kernel_rfl) (by kernel_rfl) (fun _ _ _ h => h) (by kernel_rfl) (Ext.stable _) hCD (yieldsU_val rfl (fun u hu => by go_simp)) ?_
  refine anyU_takeP (i := 2) (j := 18) (v := .slice (some ⟨b2, off2, none⟩) m d) 91 [] rfl rfl (by kernel_rfl) (by kernel_rfl) (by kernel_rfl) (fun _ _ _ h => h) (by kernel_rfl) (Ext.stable _) hCD (yieldsU_val rfl (fun u hu => by go_simp <;> (intro h9; exfalso; omega))) ?_
  refine anyU_takeP (i := 3) (j := 18) (v := .int .i64 (j : Int)) 92 [] rfl rfl (by kernel_rfl) (by kernel_rfl) (by kernel_rfl) (fun _ _ _ h => h) (by kernel_rfl) (Ext.stable _) hCD (yieldsU_val rfl (fun u hu => by go_simp)) ?_
  refine anyU_takeP (i := 4) (j := 18) (v := .slice (some ⟨b2, off2, none⟩) j d) 93 [] rfl rfl (by kernel_rfl) (by kernel_rfl) (by kernel_rfl) (fun _ _ _ h => h) (by kernel_rfl) (Ext.stable _) hCD (yieldsU_val rfl (fun u hu => by go_simp <;> (intro h9; exfalso; omega))) ?_
  refine anyU_takeP (i := 6) (j := 18) (v := .slice (some ⟨b2, off2, none⟩) m d) 95 [] rfl rfl (by kernel_rfl) (by kernel_rfl) (by kernel_rfl) (fun _ _ _ h => h) (by kernel_rfl) (Ext.stable _) hCD (yieldsU_val rfl (fun u hu => by go_simp <;> (intro h9; exfalso; omega))) ?_
  simp only [Act.put, List.setIfInBounds_toArray, List.set_cons_succ, List.set_cons_zero]
  refine anyU_takeP (i := 7) (j := 18) (v := .int .i64 (j : Int)) 96 [] rfl rfl (by kernel_rfl) (by kernel_rfl) (by kernel_rfl) (fun _ _ _ h => h) (by kernel_rfl) (Ext.stable _) hCD (yieldsU_val rfl (fun u hu => by go_simp)) ?_
  refine anyU_takeP (i := 8) (j := 18) (v := .int .i64 (j + 1 : Int)) 97 [] rfl rfl (by kernel_rfl) (by kernel_rfl) (by kernel_rfl) (fun _ _ _ h => h) (by kernel_rfl) (Ext.stable _) hCD (yieldsU_val rfl (fun u hu => by go_simp)) ?_
  refine anyU_takeP (i := 9) (j := 18) (v := .slice q2 (m - (j + 1)) (d - (j + 1))) 98 [] rfl rfl (by kernel_rfl) (by kernel_rfl) (by kernel_rfl) (fun _ _ _ h => h) (by kernel_rfl) (Ext.stable _) hCD (yieldsU_val rfl (fun u hu => by rcases HP2.out with ⟨h1, h2⟩ | ⟨h1, h2⟩ <;> rw [h2] <;> go_simp <;> (intro h9; exfalso; omega))) ?_
  refine anyU_takeP (i := 11) (j := 18) (v := .int .i64 a) 100 [] rfl rfl (by kernel_rfl) (by kernel_rfl) (by kernel_rfl) (fun _ _ _ h => h) (by kernel_rfl) (Ext.stable _) hCD (yieldsU_val rfl (fun u hu => by go_simp)) ?_
  refine anyU_takeP (i := 12) (j := 18) (v := .int .i64 b) 101 [] rfl rfl (by kernel_rfl) (by kernel_rfl) (by kernel_rfl) (fun _ _ _ h => h) (by kernel_rfl) (Ext.stable _) hCD (yieldsU_val rfl (fun u hu => by go_simp)) ?_
  simp only [Act.put, List.setIfInBounds_toArray, List.set_cons_succ, List.set_cons_zero]
  refine anyU_one 1 8 _ rfl rfl (by kernel_rfl) ?_
  intro u1 hu
  go_wp2_with fail
  change ∃ C' : World → Prop, _ ∧ _ ∧ _ ∧ anyU _ _ _ _ _ _ 8 _ _ _
  have O1 := Lib.hid (show OwnG (u1.alloc (.cells #[] 37)) V.heap.size (.slice (some ⟨u1.heap.size, 0, none⟩) 0 0) [] from ownG_new _ hu.size)
  have E1 := Lib.hid (Ext.trans hu (bel_alloc1 u1 (.cells #[] 37)))
  generalize World.alloc u1 _ = u2 at O1 E1 ⊢
  generalize u1.heap.size = bb at O1 ⊢
  clear hu
  have hST1 : Stable (fun z => Ext V z ∧ OwnG z V.heap.size (.slice (some ⟨bb, 0, none⟩) 0 0) ([])) := ((Ext.stable V).and (fun y z h k => ownG_below h k))
  have hF1 : ∀ z, (fun z => Ext V z ∧ OwnG z V.heap.size (.slice (some ⟨bb, 0, none⟩) 0 0) ([])) z → Ext V z := fun z hz => hz.1
  refine anchorF (fun z => Ext V z ∧ OwnG z V.heap.size (.slice (some ⟨bb, 0, none⟩) 0 0) ([])) (fun z hz => hz.1) hST1 ⟨E1.out, O1.out⟩ ?_
  (try simp only [Act.put])
  clear O1 E1
  refine anyU_one 5 7 _ rfl rfl (by kernel_rfl) ?_
  intro u3 hu
  have O3 := Lib.hid hu.2
  have E3 := Lib.hid hu.1
  clear hu
  go_wp2_with (at_builtin; refine appG rfl (.tmp 90) (.tmp 93) rfl V.heap.size (.slice (some ⟨bb, 0, none⟩) 0 0) [] rfl O3.out (some ⟨b2, off2, none⟩) j d (gs.take j) rfl (V1.out.below E3.out) (by simp; omega) E3.out.size ?_; intro v4 u4 ho hg; rw [List.nil_append] at ho; have O4 := Lib.hid ho; have E4 := Lib.hid (show Ext V u4 from bel_grownG E3.out O3.out hg E3.out.size); clear ho hg)
  change ∃ C' : World → Prop, _ ∧ _ ∧ _ ∧ anyU _ _ _ _ _ _ 7 _ _ _
  have hST2 : Stable (fun z => Ext V z ∧ OwnG z V.heap.size v4 (gs.take j)) := ((Ext.stable V).and (fun y z h k => ownG_below h k))
  have hF2 : ∀ z, (fun z => Ext V z ∧ OwnG z V.heap.size v4 (gs.take j)) z → Ext V z := fun z hz => hz.1
  refine anchorF (fun z => Ext V z ∧ OwnG z V.heap.size v4 (gs.take j)) (fun z hz => hz.1) hST2 ⟨E4.out, O4.out⟩ ?_
  (try simp only [Act.put])
  clear O4 E4 O3 E3
  refine anyU_one 10 6 _ rfl rfl (by kernel_rfl) ?_
  intro u5 hu
  have O5 := Lib.hid hu.2
  have E5 := Lib.hid hu.1
  clear hu
  go_wp2_with (at_builtin; refine appG rfl (.tmp 94) (.tmp 98) rfl V.heap.size v4 (gs.take j) rfl O5.out q2 (m - (j + 1)) (d - (j + 1)) (gs.drop (j + 1)) rfl (V2.out.below E5.out) (by rw [List.length_take, List.length_drop]; omega) E5.out.size ?_; intro v6 u6 ho hg; rw [hGS.out] at ho; have O6 := Lib.hid ho; have E6 := Lib.hid (show Ext V u6 from bel_grownG E5.out O5.out hg E5.out.size); clear ho hg)
  change ∃ C' : World → Prop, _ ∧ _ ∧ _ ∧ anyU _ _ _ _ _ _ 6 _ _ _
  have hST3 : Stable (fun z => Ext V z ∧ OwnG z V.heap.size v6 (gs')) := ((Ext.stable V).and (fun y z h k => ownG_below h k))
  have hF3 : ∀ z, (fun z => Ext V z ∧ OwnG z V.heap.size v6 (gs')) z → Ext V z := fun z hz => hz.1
  refine anchorF (fun z => Ext V z ∧ OwnG z V.heap.size v6 (gs')) (fun z hz => hz.1) hST3 ⟨E6.out, O6.out⟩ ?_
  (try simp only [Act.put])
  clear O6 E6 O5 E5 V1 V2 HP2
  refine anyU_one 13 5 _ rfl rfl (by kernel_rfl) ?_
  intro u7 hu
  obtain ⟨px, cx, hvx, hVx⟩ := ownG_V hu.2 hGG.out
  subst hvx
  have VX := Lib.hid hVx
  have E7 := Lib.hid (show Below V.heap.size V u7 from hu.1)
  clear hu hVx
  go_wp2_with (go_at_call 10; (with_reducible refine (cmom_ah p 0 c rs px gs'.length cx gs' a b u7 (Lib.hid (RV.out.below E7.out)) VX 0 KG hEG hKG).mono ?_); rintro e u8 ⟨v8, rfl, ho, hb⟩; have O8 := Lib.hid (ownI_mono ho E7.out.size); have E8 := Lib.hid (show Ext V u8 from Ext.trans E7.out hb); clear ho hb)
  change ∃ C' : World → Prop, _ ∧ _ ∧ _ ∧ anyU _ _ _ _ _ _ 5 _ _ _
  have hST4 : Stable (fun z => Ext V z ∧ OwnI z V.heap.size v8 KG) := ((Ext.stable V).and (fun y z h k => ownI_below h k))
  have hF4 : ∀ z, (fun z => Ext V z ∧ OwnI z V.heap.size v8 KG) z → Ext V z := fun z hz => hz.1
  refine anchorF (fun z => Ext V z ∧ OwnI z V.heap.size v8 KG) (fun z hz => hz.1) hST4 ⟨E8.out, O8.out⟩ ?_
  (try simp only [Act.put])
  clear VX E7 O8 E8
  refine anyU_takeP (i := 14) (j := 18) (v := .tuple #[v8, .int .i64 0]) 88 [] rfl rfl (by kernel_rfl) (by kernel_rfl) (by kernel_rfl) (fun _ _ _ h => h) (by kernel_rfl) hST4 hF4 (yieldsU_val rfl (fun u hu => by go_simp)) ?_
  refine anyU_takeP (i := 15) (j := 18) (v := v8) 103 [] rfl rfl (by kernel_rfl) (by kernel_rfl) (by kernel_rfl) (fun _ _ _ h => h) (by kernel_rfl) hST4 hF4 (yieldsU_val rfl (fun u hu => by go_simp)) ?_
  refine anyU_takeP (i := 16) (j := 18) (v := .int .i64 0) 104 [] rfl rfl (by kernel_rfl) (by kernel_rfl) (by kernel_rfl) (fun _ _ _ h => h) (by kernel_rfl) hST4 hF4 (yieldsU_val rfl (fun u hu => by go_simp)) ?_
  simp only [Act.put, List.setIfInBounds_toArray, List.set_cons_succ, List.set_cons_zero]
  refine anyU_one 17 1 _ rfl rfl (by kernel_rfl) ?_
  intro u9 hu9
  go_wp2_with fail
  change ∃ C' : World → Prop, _ ∧ _ ∧ _ ∧ anyU _ _ _ _ _ _ 1 _ _ _
  refine anchorF (fun z => Ext V z ∧ OwnI z V.heap.size v8 KG) (fun z hz => hz.1) hST4 hu9 ?_
  (try simp only [Act.put])
  refine anyU_tail 18 [] rfl rfl (by decide) (by kernel_rfl) ?_
  intro u hu
  simp only [Act.put, List.filterMap_cons, List.filterMap_nil, List.getElem?_cons_succ, List.getElem?_cons_zero]
  obtain ⟨pk, ck, hvx, hx4⟩ := ownI_ints hu.2
  subst hvx
  have M4 := Lib.hid hx4
  have hb : Ext V u := hu.1
  have B4 := Lib.hid (bel_trans BV.out hb)
  have R4 := Lib.hid (RV.out.below hb)
  have G4 := Lib.hid (GV.out.below hb)
  have L4 := Lib.hid (LV.out.below hb)
  have K4 := Lib.hid (KV.out.below hb KV.out.lt)
  clear hu hx4 hb hST1 hF1 hST2 hF2 hST3 hF3 hST4 hF4 BV RV GV LV KV
  rename World => w4
  have hkc := M4.out.nc
  have hkm := M4.out.cm
  have HNG : KG.length ≤ 2000 := by rw [← hKG.out]; exact momR_len
  have d5 : decide ((2000 : Int) < (KG.length : Int)) = false := decide_eq_false (by omega)
  generalize hWS : w4 = wS at M4 R4 G4 L4 B4 K4 ⊢
  clear hWS
  go_wp2_with fail
  go_loopw [22, 23] (fun kp i wr => ∃ (k' : Nat) (v : Value), k' ≤ KG.length ∧ v = kp ∧ i = .int .i64 (k' : Int) ∧ Hid (OwnI wr wS.heap.size v ((KG.take k').filter f)) ∧ Hid (Below wS.heap.size wS wr)) (fun _ i _ => KG.length - (intOf i).toNat)
  case atStart => exact ⟨0, .slice none 0 0, by omega, rfl, by simp, Lib.hid (World.ownsRow_nil _ _ _ _), Lib.hid (Below.refl _ _)⟩
  case round =>
    obtain ⟨k', v, hk', rfl, rfl, HO, HB⟩ := hrel
    rename World => wr
    by_cases hlt : k' < KG.length
    · have d6 : decide ((k' : Int) < (KG.length : Int)) = true := decide_eq_true (by omega)
      obtain ⟨kb, ko, hkp, hkb, cy⟩ := (M4.out.below HB.out).at hlt
      obtain ⟨y, hy⟩ : ∃ y, KG.getD k' 0 = y := ⟨_, rfl⟩
      rw [hy] at cy
      have HTK := Lib.hid (show KG.take (k' + 1) = KG.take k' ++ [y] by rw [take_snocZ (d := 0) hlt, hy])
      have KR := Lib.hid (K4.out.below HB.out K4.out.lt)
      clear hy
      subst hkp
      by_cases hlo : y < g1
      · have t1 : decide (y < g1) = true := decide_eq_true hlo
        have HFI := Lib.hid (show (KG.take (k' + 1)).filter f = (KG.take k').filter f ++ [y] by rw [HTK.out, List.filter_append, hF.out]; simp [gapB]; omega)
        go_upto_region 24 with fail
        refine wp_region_any (by kernel_rfl) ?_
        change wpAny _ _ _ _ _ _ _ (World.drew _)
        generalize hWD : World.drew _ = V
        have hb : Below wr.heap.size wr V := by rw [← hWD]; exact (Below.refl _ _).drew
        have BV := Lib.hid (bel_trans HB.out hb)
        have OV := Lib.hid (ownI_below HO.out hb)
        have CY := Lib.hid (show V.cell? ⟨kb, ko + k', none⟩ = some (.int .i64 y) by rw [← hWD]; exact cy)
        have KV := Lib.hid (KR.out.below hb KR.out.lt)
        have hkV : kb < V.heap.size := by rw [← hWD]; exact hkb
        clear hWD hb cy KR
        have hCD : ∀ u, Ext V u → Ext V u := fun u hu => hu
        refine region_U (D := Ext V) (Ext V) [15] (Ext.refl V) ?_
        refine anyU_takeP (i := 0) (j := 15) (v := .slice (some ⟨kb, ko, none⟩) KG.length ck) 123 [7, 6, 3, 2] rfl rfl (by kernel_rfl) (by kernel_rfl) (by kernel_rfl) (fun _ _ _ h => h) (by kernel_rfl) (Ext.stable _) hCD (yieldsU_val rfl (fun u hu => by go_simp)) ?_
        refine anyU_takeP (i := 1) (j := 15) (v := .int .i64 (k' : Int)) 124 [7, 6, 3, 2] rfl rfl (by kernel_rfl) (by kernel_rfl) (by kernel_rfl) (fun _ _ _ h => h) (by kernel_rfl) (Ext.stable _) hCD (yieldsU_val rfl (fun u hu => by go_simp)) ?_
        refine anyU_takeP (i := 2) (j := 15) (v := .pointer (some ⟨kb, ko + k', none⟩)) 125 [7, 6, 3] rfl rfl (by kernel_rfl) (by kernel_rfl) (by kernel_rfl) (fun _ _ _ h => h) (by kernel_rfl) (Ext.stable _) hCD (yieldsU_val rfl (fun u hu => by go_simp)) ?_
        refine anyU_takeP (i := 3) (j := 15) (v := .int .i64 y) 126 [7, 6] rfl rfl (by kernel_rfl) (by kernel_rfl) (by kernel_rfl) (fun _ _ _ h => h) (by kernel_rfl) (Ext.stable _) hCD (yieldsU_val rfl (fun u hu => by have cc := (hu.cell (p := ⟨kb, ko + k', none⟩) hkV).trans CY.out; go_simp)) ?_
        simp only [Act.put, List.setIfInBounds_toArray, List.set_cons_succ, List.set_cons_zero]
        refine anyU_takeP (i := 4) (j := 15) (v := .pointer (some ⟨gb, 0, none⟩)) 127 [7, 6, 5] rfl rfl (by kernel_rfl) (by kernel_rfl) (by kernel_rfl) (fun _ _ _ h => h) (by kernel_rfl) (Ext.stable _) hCD (yieldsU_val rfl (fun u hu => by go_simp)) ?_
        refine anyU_takeP (i := 5) (j := 15) (v := .int .i64 g1) 128 [7, 6] rfl rfl (by kernel_rfl) (by kernel_rfl) (by kernel_rfl) (fun _ _ _ h => h) (by kernel_rfl) (Ext.stable _) hCD (yieldsU_val rfl (fun u hu => by have cc := (KV.out.below hu KV.out.lt).cell 0; go_simp)) ?_
        refine anyU_takeP (i := 6) (j := 15) (v := .bool true) 129 [7] rfl rfl (by kernel_rfl) (by kernel_rfl) (by kernel_rfl) (fun _ _ _ h => h) (by kernel_rfl) (Ext.stable _) hCD (yieldsU_val rfl (fun u hu => by go_simp)) ?_
        refine anyU_takeP (i := 7) (j := 15) (v := .bool true) 130 [] rfl rfl (by kernel_rfl) (by kernel_rfl) (by kernel_rfl) (fun _ _ _ h => h) (by kernel_rfl) (Ext.stable _) hCD (yieldsU_val rfl (fun u hu => by go_simp)) ?_
        simp only [Act.put, List.setIfInBounds_toArray, List.set_cons_succ, List.set_cons_zero]
        refine anyU_takeP (i := 8) (j := 15) (v := undef) 131 [14, 11, 10] rfl rfl (by kernel_rfl) (by kernel_rfl) (by kernel_rfl) (fun _ _ _ h => h) (by kernel_rfl) (Ext.stable _) hCD (.inr ⟨by rfl, rfl⟩) ?_
        refine anyU_takeP (i := 9) (j := 15) (v := undef) 132 [14, 11, 10] rfl rfl (by kernel_rfl) (by kernel_rfl) (by kernel_rfl) (fun _ _ _ h => h) (by kernel_rfl) (Ext.stable _) hCD (.inr ⟨by rfl, rfl⟩) ?_
        refine anyU_takeP (i := 10) (j := 15) (v := undef) 133 [14, 11] rfl rfl (by kernel_rfl) (by kernel_rfl) (by kernel_rfl) (fun _ _ _ h => h) (by kernel_rfl) (Ext.stable _) hCD (.inr ⟨by rfl, rfl⟩) ?_
        refine anyU_takeP (i := 11) (j := 15) (v := undef) 134 [14] rfl rfl (by kernel_rfl) (by kernel_rfl) (by kernel_rfl) (fun _ _ _ h => h) (by kernel_rfl) (Ext.stable _) hCD (.inr ⟨by rfl, rfl⟩) ?_
        refine anyU_takeP (i := 12) (j := 15) (v := undef) 135 [14, 13] rfl rfl (by kernel_rfl) (by kernel_rfl) (by kernel_rfl) (fun _ _ _ h => h) (by kernel_rfl) (Ext.stable _) hCD (.inr ⟨by rfl, rfl⟩) ?_
        refine anyU_takeP (i := 13) (j := 15) (v := undef) 136 [14] rfl rfl (by kernel_rfl) (by kernel_rfl) (by kernel_rfl) (fun _ _ _ h => h) (by kernel_rfl) (Ext.stable _) hCD (.inr ⟨by rfl, rfl⟩) ?_
        refine anyU_takeP (i := 14) (j := 15) (v := undef) 137 [] rfl rfl (by kernel_rfl) (by kernel_rfl) (by kernel_rfl) (fun _ _ _ h => h) (by kernel_rfl) (Ext.stable _) hCD (.inr ⟨by rfl, rfl⟩) ?_
        simp only [Act.put, List.setIfInBounds_toArray, List.set_cons_succ, List.set_cons_zero]
        refine anyU_tail 15 [] rfl rfl (by decide) (by kernel_rfl) ?_
        intro u hu
        simp only [Act.put, List.filterMap_cons, List.filterMap_nil, List.getElem?_cons_succ, List.getElem?_cons_zero]
        have HB := Lib.hid (bel_trans BV.out hu)
        have HO := Lib.hid (ownI_below OV.out hu)
        have cy : u.cell? ⟨kb, ko + k', none⟩ = some (.int .i64 y) := (hu.cell (p := ⟨kb, ko + k', none⟩) hkV).trans CY.out
        clear hu CY BV OV KV hkV
        rename World => wu
        have hwr := HB.out.size
        have hlt2 : ((KG.take k').filter f).length ≤ 2000 := Nat.le_trans (List.length_filter_le _ _) (by rw [List.length_take]; omega)
        obtain ⟨pv, cv, hv, hz, hz1, hz2, hz3⟩ := ownI_src HO.out
        subst hv
        clear hz hz3
        go_wp2_with (at_builtin; refine appI rfl (.tmp 139) (.tmp 144) rfl wS.heap.size (.slice pv ((KG.take k').filter f).length cv) ((KG.take k').filter f) rfl (ownI_alloc HO.out _) (some ⟨wu.heap.size, 0, none⟩) 1 1 [y] rfl ⟨rfl, .inr ⟨wu.heap.size, 0, rfl, by simp, fun j hj => by
                  have hj0 : j = 0 := by simp at hj; exact hj
                  subst hj0; exact (Blk.new wu #[.int .i64 y] _).one⟩⟩ (by simp; omega) (by rw [World.size_alloc]; omega) ?_; intro v3 w3 ho hg3; rw [← HFI.out] at ho; have HO3 := Lib.hid ho; have B3 := Lib.hid (show Below wS.heap.size wS w3 from bel_grownI (HB.out.alloc hwr _) (ownI_alloc HO.out _) hg3 (by rw [World.size_alloc]; omega)); clear ho hg3)
        go_roundw
        case rel => exact ⟨k' + 1, v3, by omega, rfl, by simp, HO3, B3⟩
        case measure => simp [intOf]; omega
      · have t1 : decide (y < g1) = false := decide_eq_false hlo
        by_cases hhi : g2 ≤ y
        · have t2 : decide (g2 ≤ y) = true := decide_eq_true hhi
          have HFI := Lib.hid (show (KG.take (k' + 1)).filter f = (KG.take k').filter f ++ [y] by rw [HTK.out, List.filter_append, hF.out]; simp [gapB]; omega)
          go_upto_region 24 with fail
          refine wp_region_any (by kernel_rfl) ?_
          change wpAny _ _ _ _ _ _ _ (World.drew _)
          generalize hWD : World.drew _ = V
          have hb : Below wr.heap.size wr V := by rw [← hWD]; exact (Below.refl _ _).drew
          have BV := Lib.hid (bel_trans HB.out hb)
          have OV := Lib.hid (ownI_below HO.out hb)
          have CY := Lib.hid (show V.cell? ⟨kb, ko + k', none⟩ = some (.int .i64 y) by rw [← hWD]; exact cy)
          have KV := Lib.hid (KR.out.below hb KR.out.lt)
          have hkV : kb < V.heap.size := by rw [← hWD]; exact hkb
          clear hWD hb cy KR
          have hCD : ∀ u, Ext V u → Ext V u := fun u hu => hu
          refine region_U (D := Ext V) (Ext V) [15] (Ext.refl V) ?_
          refine anyU_takeP (i := 0) (j := 15) (v := .slice (some ⟨kb, ko, none⟩) KG.length ck) 123 [7, 6, 3, 2] rfl rfl (by kernel_rfl) (by kernel_rfl) (by kernel_rfl) (fun _ _ _ h => h) (by kernel_rfl) (Ext.stable _) hCD (yieldsU_val rfl (fun u hu => by go_simp)) ?_
          refine anyU_takeP (i := 1) (j := 15) (v := .int .i64 (k' : Int)) 124 [7, 6, 3, 2] rfl rfl (by kernel_rfl) (by kernel_rfl) (by kernel_rfl) (fun _ _ _ h => h) (by kernel_rfl) (Ext.stable _) hCD (yieldsU_val rfl (fun u hu => by go_simp)) ?_
          refine anyU_takeP (i := 2) (j := 15) (v := .pointer (some ⟨kb, ko + k', none⟩)) 125 [7, 6, 3] rfl rfl (by kernel_rfl) (by kernel_rfl) (by kernel_rfl) (fun _ _ _ h => h) (by kernel_rfl) (Ext.stable _) hCD (yieldsU_val rfl (fun u hu => by go_simp)) ?_
          refine anyU_takeP (i := 3) (j := 15) (v := .int .i64 y) 126 [7, 6] rfl rfl (by kernel_rfl) (by kernel_rfl) (by kernel_rfl) (fun _ _ _ h => h) (by kernel_rfl) (Ext.stable _) hCD (yieldsU_val rfl (fun u hu => by have cc := (hu.cell (p := ⟨kb, ko + k', none⟩) hkV).trans CY.out; go_simp)) ?_
          simp only [Act.put, List.setIfInBounds_toArray, List.set_cons_succ, List.set_cons_zero]
          refine anyU_takeP (i := 4) (j := 15) (v := .pointer (some ⟨gb, 0, none⟩)) 127 [7, 6, 5] rfl rfl (by kernel_rfl) (by kernel_rfl) (by kernel_rfl) (fun _ _ _ h => h) (by kernel_rfl) (Ext.stable _) hCD (yieldsU_val rfl (fun u hu => by go_simp)) ?_
          refine anyU_takeP (i := 5) (j := 15) (v := .int .i64 g1) 128 [7, 6] rfl rfl (by kernel_rfl) (by kernel_rfl) (by kernel_rfl) (fun _ _ _ h => h) (by kernel_rfl) (Ext.stable _) hCD (yieldsU_val rfl (fun u hu => by have cc := (KV.out.below hu KV.out.lt).cell 0; go_simp)) ?_
          refine anyU_takeP (i := 6) (j := 15) (v := .bool false) 129 [7] rfl rfl (by kernel_rfl) (by kernel_rfl) (by kernel_rfl) (fun _ _ _ h => h) (by kernel_rfl) (Ext.stable _) hCD (yieldsU_val rfl (fun u hu => by go_simp)) ?_
          refine anyU_takeP (i := 7) (j := 15) (v := .bool false) 130 [] rfl rfl (by kernel_rfl) (by kernel_rfl) (by kernel_rfl) (fun _ _ _ h => h) (by kernel_rfl) (Ext.stable _) hCD (yieldsU_val rfl (fun u hu => by go_simp)) ?_
          simp only [Act.put, List.setIfInBounds_toArray, List.set_cons_succ, List.set_cons_zero]
          refine anyU_takeP (i := 8) (j := 15) (v := .slice (some ⟨kb, ko, none⟩) KG.length ck) 131 [14, 11, 10] rfl rfl (by kernel_rfl) (by kernel_rfl) (by kernel_rfl) (fun _ _ _ h => h) (by kernel_rfl) (Ext.stable _) hCD (yieldsU_val rfl (fun u hu => by go_simp)) ?_
          refine anyU_takeP (i := 9) (j := 15) (v := .int .i64 (k' : Int)) 132 [14, 11, 10] rfl rfl (by kernel_rfl) (by kernel_rfl) (by kernel_rfl) (fun _ _ _ h => h) (by kernel_rfl) (Ext.stable _) hCD (yieldsU_val rfl (fun u hu => by go_simp)) ?_
          refine anyU_takeP (i := 10) (j := 15) (v := .pointer (some ⟨kb, ko + k', none⟩)) 133 [14, 11] rfl rfl (by kernel_rfl) (by kernel_rfl) (by kernel_rfl) (fun _ _ _ h => h) (by kernel_rfl) (Ext.stable _) hCD (yieldsU_val rfl (fun u hu => by go_simp)) ?_
          refine anyU_takeP (i := 11) (j := 15) (v := .int .i64 y) 134 [14] rfl rfl (by kernel_rfl) (by kernel_rfl) (by kernel_rfl) (fun _ _ _ h => h) (by kernel_rfl) (Ext.stable _) hCD (yieldsU_val rfl (fun u hu => by have cc := (hu.cell (p := ⟨kb, ko + k', none⟩) hkV).trans CY.out; go_simp)) ?_
          simp only [Act.put, List.setIfInBounds_toArray, List.set_cons_succ, List.set_cons_zero]
          refine anyU_takeP (i := 12) (j := 15) (v := .pointer (some ⟨gb, 1, none⟩)) 135 [14, 13] rfl rfl (by kernel_rfl) (by kernel_rfl) (by kernel_rfl) (fun _ _ _ h => h) (by kernel_rfl) (Ext.stable _) hCD (yieldsU_val rfl (fun u hu => by go_simp)) ?_
          refine anyU_takeP (i := 13) (j := 15) (v := .int .i64 g2) 136 [14] rfl rfl (by kernel_rfl) (by kernel_rfl) (by kernel_rfl) (fun _ _ _ h => h) (by kernel_rfl) (Ext.stable _) hCD (yieldsU_val rfl (fun u hu => by have cc := (KV.out.below hu KV.out.lt).cell 1; go_simp)) ?_
          refine anyU_takeP (i := 14) (j := 15) (v := .bool true) 137 [] rfl rfl (by kernel_rfl) (by kernel_rfl) (by kernel_rfl) (fun _ _ _ h => h) (by kernel_rfl) (Ext.stable _) hCD (yieldsU_val rfl (fun u hu => by go_simp)) ?_
          simp only [Act.put, List.setIfInBounds_toArray, List.set_cons_succ, List.set_cons_zero]
          refine anyU_tail 15 [] rfl rfl (by decide) (by kernel_rfl) ?_
          intro u hu
          simp only [Act.put, List.filterMap_cons, List.filterMap_nil, List.getElem?_cons_succ, List.getElem?_cons_zero]
          have HB := Lib.hid (bel_trans BV.out hu)
          have HO := Lib.hid (ownI_below OV.out hu)
          have cy : u.cell? ⟨kb, ko + k', none⟩ = some (.int .i64 y) := (hu.cell (p := ⟨kb, ko + k', none⟩) hkV).trans CY.out
          clear hu CY BV OV KV hkV
          rename World => wu
          have hwr := HB.out.size
          have hlt2 : ((KG.take k').filter f).length ≤ 2000 := Nat.le_trans (List.length_filter_le _ _) (by rw [List.length_take]; omega)
          obtain ⟨pv, cv, hv, hz, hz1, hz2, hz3⟩ := ownI_src HO.out
          subst hv
          clear hz hz3
          go_wp2_with (at_builtin; refine appI rfl (.tmp 139) (.tmp 144) rfl wS.heap.size (.slice pv ((KG.take k').filter f).length cv) ((KG.take k').filter f) rfl (ownI_alloc HO.out _) (some ⟨wu.heap.size, 0, none⟩) 1 1 [y] rfl ⟨rfl, .inr ⟨wu.heap.size, 0, rfl, by simp, fun j hj => by
                    have hj0 : j = 0 := by simp at hj; exact hj
                    subst hj0; exact (Blk.new wu #[.int .i64 y] _).one⟩⟩ (by simp; omega) (by rw [World.size_alloc]; omega) ?_; intro v3 w3 ho hg3; rw [← HFI.out] at ho; have HO3 := Lib.hid ho; have B3 := Lib.hid (show Below wS.heap.size wS w3 from bel_grownI (HB.out.alloc hwr _) (ownI_alloc HO.out _) hg3 (by rw [World.size_alloc]; omega)); clear ho hg3)
          go_roundw
          case rel => exact ⟨k' + 1, v3, by omega, rfl, by simp, HO3, B3⟩
          case measure => simp [intOf]; omega
        · have t2 : decide (g2 ≤ y) = false := decide_eq_false hhi
          have HFI := Lib.hid (show (KG.take (k' + 1)).filter f = (KG.take k').filter f by rw [HTK.out, List.filter_append, hF.out]; simp [gapB]; omega)
          go_upto_region 24 with fail
          refine wp_region_any (by kernel_rfl) ?_
          change wpAny _ _ _ _ _ _ _ (World.drew _)
          generalize hWD : World.drew _ = V
          have hb : Below wr.heap.size wr V := by rw [← hWD]; exact (Below.refl _ _).drew
          have BV := Lib.hid (bel_trans HB.out hb)
          have OV := Lib.hid (ownI_below HO.out hb)
          have CY := Lib.hid (show V.cell? ⟨kb, ko + k', none⟩ = some (.int .i64 y) by rw [← hWD]; exact cy)
          have KV := Lib.hid (KR.out.below hb KR.out.lt)
          have hkV : kb < V.heap.size := by rw [← hWD]; exact hkb
          clear hWD hb cy KR
          have hCD : ∀ u, Ext V u → Ext V u := fun u hu => hu
          refine region_U (D := Ext V) (Ext V) [15] (Ext.refl V) ?_
          refine anyU_takeP (i := 0) (j := 15) (v := .slice (some ⟨kb, ko, none⟩) KG.length ck) 123 [7, 6, 3, 2] rfl rfl (by kernel_rfl) (by kernel_rfl) (by kernel_rfl) (fun _ _ _ h => h) (by kernel_rfl) (Ext.stable _) hCD (yieldsU_val rfl (fun u hu => by go_simp)) ?_
          refine anyU_takeP (i := 1) (j := 15) (v := .int .i64 (k' : Int)) 124 [7, 6, 3, 2] rfl rfl (by kernel_rfl) (by kernel_rfl) (by kernel_rfl) (fun _ _ _ h => h) (by kernel_rfl) (Ext.stable _) hCD (yieldsU_val rfl (fun u hu => by go_simp)) ?_
          refine anyU_takeP (i := 2) (j := 15) (v := .pointer (some ⟨kb, ko + k', none⟩)) 125 [7, 6, 3] rfl rfl (by kernel_rfl) (by kernel_rfl) (by kernel_rfl) (fun _ _ _ h => h) (by kernel_rfl) (Ext.stable _) hCD (yieldsU_val rfl (fun u hu => by go_simp)) ?_
          refine anyU_takeP (i := 3) (j := 15) (v := .int .i64 y) 126 [7, 6] rfl rfl (by kernel_rfl) (by kernel_rfl) (by kernel_rfl) (fun _ _ _ h => h) (by kernel_rfl) (Ext.stable _) hCD (yieldsU_val rfl (fun u hu => by have cc := (hu.cell (p := ⟨kb, ko + k', none⟩) hkV).trans CY.out; go_simp)) ?_
          simp only [Act.put, List.setIfInBounds_toArray, List.set_cons_succ, List.set_cons_zero]
          refine anyU_takeP (i := 4) (j := 15) (v := .pointer (some ⟨gb, 0, none⟩)) 127 [7, 6, 5] rfl rfl (by kernel_rfl) (by kernel_rfl) (by kernel_rfl) (fun _ _ _ h => h) (by kernel_rfl) (Ext.stable _) hCD (yieldsU_val rfl (fun u hu => by go_simp)) ?_
          refine anyU_takeP (i := 5) (j := 15) (v := .int .i64 g1) 128 [7, 6] rfl rfl (by kernel_rfl) (by kernel_rfl) (by kernel_rfl) (fun _ _ _ h => h) (by kernel_rfl) (Ext.stable _) hCD (yieldsU_val rfl (fun u hu => by have cc := (KV.out.below hu KV.out.lt).cell 0; go_simp)) ?_
          refine anyU_takeP (i := 6) (j := 15) (v := .bool false) 129 [7] rfl rfl (by kernel_rfl) (by kernel_rfl) (by kernel_rfl) (fun _ _ _ h => h) (by kernel_rfl) (Ext.stable _) hCD (yieldsU_val rfl (fun u hu => by go_simp)) ?_
          refine anyU_takeP (i := 7) (j := 15) (v := .bool false) 130 [] rfl rfl (by kernel_rfl) (by kernel_rfl) (by kernel_rfl) (fun _ _ _ h => h) (by kernel_rfl) (Ext.stable _) hCD (yieldsU_val rfl (fun u hu => by go_simp)) ?_
          simp only [Act.put, List.setIfInBounds_toArray, List.set_cons_succ, List.set_cons_zero]
          refine anyU_takeP (i := 8) (j := 15) (v := .slice (some ⟨kb, ko, none⟩) KG.length ck) 131 [14, 11, 10] rfl rfl (by kernel_rfl) (by kernel_rfl) (by kernel_rfl) (fun _ _ _ h => h) (by kernel_rfl) (Ext.stable _) hCD (yieldsU_val rfl (fun u hu => by go_simp)) ?_
          refine anyU_takeP (i := 9) (j := 15) (v := .int .i64 (k' : Int)) 132 [14, 11, 10] rfl rfl (by kernel_rfl) (by kernel_rfl) (by kernel_rfl) (fun _ _ _ h => h) (by kernel_rfl) (Ext.stable _) hCD (yieldsU_val rfl (fun u hu => by go_simp)) ?_
          refine anyU_takeP (i := 10) (j := 15) (v := .pointer (some ⟨kb, ko + k', none⟩)) 133 [14, 11] rfl rfl (by kernel_rfl) (by kernel_rfl) (by kernel_rfl) (fun _ _ _ h => h) (by kernel_rfl) (Ext.stable _) hCD (yieldsU_val rfl (fun u hu => by go_simp)) ?_
          refine anyU_takeP (i := 11) (j := 15) (v := .int .i64 y) 134 [14] rfl rfl (by kernel_rfl) (by kernel_rfl) (by kernel_rfl) (fun _ _ _ h => h) (by kernel_rfl) (Ext.stable _) hCD (yieldsU_val rfl (fun u hu => by have cc := (hu.cell (p := ⟨kb, ko + k', none⟩) hkV).trans CY.out; go_simp)) ?_
          simp only [Act.put, List.setIfInBounds_toArray, List.set_cons_succ, List.set_cons_zero]
          refine anyU_takeP (i := 12) (j := 15) (v := .pointer (some ⟨gb, 1, none⟩)) 135 [14, 13] rfl rfl (by kernel_rfl) (by kernel_rfl) (by kernel_rfl) (fun _ _ _ h => h) (by kernel_rfl) (Ext.stable _) hCD (yieldsU_val rfl (fun u hu => by go_simp)) ?_
          refine anyU_takeP (i := 13) (j := 15) (v := .int .i64 g2) 136 [14] rfl rfl (by kernel_rfl) (by kernel_rfl) (by kernel_rfl) (fun _ _ _ h => h) (by kernel_rfl) (Ext.stable _) hCD (yieldsU_val rfl (fun u hu => by have cc := (KV.out.below hu KV.out.lt).cell 1; go_simp)) ?_
          refine anyU_takeP (i := 14) (j := 15) (v := .bool false) 137 [] rfl rfl (by kernel_rfl) (by kernel_rfl) (by kernel_rfl) (fun _ _ _ h => h) (by kernel_rfl) (Ext.stable _) hCD (yieldsU_val rfl (fun u hu => by go_simp)) ?_
          simp only [Act.put, List.setIfInBounds_toArray, List.set_cons_succ, List.set_cons_zero]
          refine anyU_tail 15 [] rfl rfl (by decide) (by kernel_rfl) ?_
          intro u hu
          simp only [Act.put, List.filterMap_cons, List.filterMap_nil, List.getElem?_cons_succ, List.getElem?_cons_zero]
          have HB := Lib.hid (bel_trans BV.out hu)
          have HO := Lib.hid (ownI_below OV.out hu)
          have cy : u.cell? ⟨kb, ko + k', none⟩ = some (.int .i64 y) := (hu.cell (p := ⟨kb, ko + k', none⟩) hkV).trans CY.out
          clear hu CY BV OV KV hkV
          rename World => wu
          go_wp2_with fail
          go_roundw
          case rel => exact ⟨k' + 1, _, by omega, rfl, by simp, Lib.hid (by rw [HFI.out]; exact HO.out), HB⟩
          case measure => simp [intOf]; omega
    · have d6 : decide ((k' : Int) < (KG.length : Int)) = false := decide_eq_false (by omega)
      have ho := HO.out
      rw [List.take_of_length_le (by omega), hFG.out, hL.out] at ho
      clear HO
      obtain ⟨pf, cf, hvf, hf4⟩ := ownI_ints ho
      subst hvf
      have F4 := Lib.hid hf4
      have LW := Lib.hid (L4.out.below HB.out)
      clear hf4 ho
      go_wp2_with (go_at_call 14; (with_reducible refine (rsame_is pf pl L.length cf L.length cl L L true wr F4 LW (by omega) (by omega) (Lib.hid (by simp))).mono ?_); rintro e w20 ⟨rfl, hb⟩; have BZ := Lib.hid (bel_trans B4.out (bel_trans HB.out hb)); clear hb)
      go_ret
      exact ⟨rfl, BZ.out⟩
end Go.Proofs.Ytilokkkodocoiaa
