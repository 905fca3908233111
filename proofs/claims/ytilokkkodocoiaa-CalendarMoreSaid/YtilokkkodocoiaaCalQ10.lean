/- CalendarMore: the walk, a rule less, no gap. -/
import Derived.Test.YtilokkkodocoiaaCalRw
import Derived.Test.YtilokkkodocoiaaCalMr
import Derived.Test.YtilokkkodocoiaaCalWit
namespace Go.Proofs.Ytilokkkodocoiaa
open Go.RowKit
set_option linter.unusedVariables false
set_option linter.unusedSimpArgs false
set_option maxRecDepth 100000 in
set_option maxHeartbeats 40000000 in
theorem cmore_10 (p : Option Addr) (n c : Nat) (rs : List Rl) (q : Option Addr) (m d : Nat) (gs : List Gp) (a b av cv : Int) (w : World) (hr : Hid (RulesV w p n c rs)) (hg : Hid (GapsV w q m d gs)) (hE : Hid (momE rs gs a b = 0)) (ha0 : 0 ≤ av) (ha1 : av ≤ 255) (hc0 : 0 ≤ cv) (hc1 : cv ≤ 255) (k : Nat) (hk : k < n) (hm1 : Int.tmod av (n : Int) = (k : Int)) (rs' : List Rl) (hRS : Hid (rs.take k ++ rs.drop (k + 1) = rs')) (KR : List Int) (hER : Hid (momE rs' gs a b = 0)) (hKR : Hid (momR rs' gs a b = KR)) (f : Int → Bool) (hFR : Hid (KR = (momR rs gs a b).filter f)) (hm0 : m = 0) :
    Calls Try.prog 8 #[.slice p n c, .slice q m d, .int .i64 a, .int .i64 b, .int .u8 av, .int .u8 cv] w fun e w' => e = .returned (.bool true) ∧ Below w.heap.size w w' := by
  subst hm0
  have hnc := hr.out.nc
  have hcm := hr.out.cm
  have hmd := hg.out.nc
  have hdm := hg.out.cm
  have hmn : 0 ≤ 2000 := by have := (chk_valid (mom_zero hE.out).1).2.2; have := hg.out.len; omega
  have hnn : n ≤ 2000 := by have := (chk_valid (mom_zero hE.out).1).2.1; have := hr.out.len; omega
  have hrl : rs.length ≤ 2000 := by have := (chk_valid (mom_zero hE.out).1).2.1; omega
  have hgl : gs.length ≤ 2000 := by have := (chk_valid (mom_zero hE.out).1).2.2; omega
  go_enter Try.func8, Try.ntmps8
  have B0 := Lib.hid (Below.refl w.heap.size w)
  have R0 := hr
  have G0 := hg
  clear hr hg
  go_upto_region 3 with (go_at_call 9; (with_reducible refine (sane19_any w).mono ?_); rintro e w1 ⟨rfl, hb⟩; have B1 := Lib.hid (bel_trans B0.out hb); have R1 := Lib.hid (R0.out.below hb); have G1 := Lib.hid (G0.out.below hb); clear hb)
  clear R0 G0 B0
  obtain ⟨L, hL⟩ := named (momR rs gs a b)
  have HN : L.length ≤ 2000 := by rw [← hL.out]; exact momR_len
  have d0 : decide ((2000 : Int) < (L.length : Int)) = false := decide_eq_false (by omega)
  go_upto_region 4 with (go_at_call 10; (with_reducible refine (cmom_ah p n c rs q 0 d gs a b w1 R1 G1 0 L hE hL).mono ?_); rintro e w2 ⟨v2, rfl, ho, hb⟩; have B2 := Lib.hid (bel_trans B1.out hb); have R2 := Lib.hid (R1.out.below hb); have G2 := Lib.hid (G1.out.below hb); have O2 := ho; clear ho; clear hb)
  clear R1 G1 B1
  obtain ⟨pl, cl, hvl, hl2⟩ := ownI_ints O2
  subst hvl
  have L2 := Lib.hid hl2
  have hcl := hl2.nc
  have hclm := hl2.cm
  clear hl2 O2
  have e1 : decide ((0 : Int) < (n : Int)) = true := decide_eq_true (by omega)
  have e2 : decide ((n : Int) = 0) = false := decide_eq_false (by omega)
  have e3 : ((n : Int) == 0) = false := by simp; omega
  have hwa : IntKind.i64.wrap av = av := by rw [IntKind.wrap_i64]; omega
  have hwk : IntKind.i64.wrap (k : Int) = (k : Int) := by rw [IntKind.wrap_i64]; omega
  have hwk1 : IntKind.i64.wrap ((k : Int) + 1) = (k : Int) + 1 := by rw [IntKind.wrap_i64]; omega
  have hk1i : (k : Int) + 1 ≤ (n : Int) := by omega
  have hki : (k : Int) ≤ (n : Int) := by omega
  obtain ⟨b', off', hp, _⟩ := R2.out.at hk
  obtain ⟨rb, ro, hp1⟩ : ∃ rb ro, p = some ⟨rb, ro, none⟩ := ⟨_, _, hp⟩
  clear hp
  subst hp1
  have hRG := Lib.hid (show ∀ r ∈ rs', inI r.1 ∧ inI r.2.1 ∧ inI r.2.2 by
    rw [← hRS.out]; exact fun r h => (List.mem_append.1 h).elim (fun h => R2.out.rng r (List.mem_of_mem_take h)) (fun h => R2.out.rng r (List.mem_of_mem_drop h)))
  go_upto_region 8 with fail
  refine wp_region_any (by kernel_rfl) ?_
  change wpAny _ _ _ _ _ _ _ (World.drew _)
  generalize hWD : World.drew _ = V
  have hb : Below w2.heap.size w2 V := by rw [← hWD]; exact (Below.refl _ _).drew
  have BV := Lib.hid (bel_trans B2.out hb)
  have RV := Lib.hid (R2.out.below hb)
  have GV := Lib.hid (G2.out.below hb)
  have LV := Lib.hid (L2.out.below hb)

  clear hWD hb
  obtain ⟨p2, hp2, hV2⟩ := RV.out.drop hk
  have HP2 := Lib.hid hp2
  have V2 := Lib.hid hV2
  have V1 := Lib.hid (RV.out.take (i := k) (by omega))
  clear hp2 hV2
  have hCD : ∀ u, Ext V u → Ext V u := fun u hu => hu
  refine region_U (D := Ext V) (Ext V) [18] (Ext.refl V) ?_
  refine anyU_takeP (i := 1) (j := 18) (v := .slice (some ⟨rb, ro, none⟩) n c) 53 [] rfl rfl (by kernel_rfl) (by kernel_rfl) (by kernel_rfl) (fun _ _ _ h => h) (by kernel_rfl) (Ext.stable _) hCD (yieldsU_val rfl (fun u hu => by go_simp <;> (intro h9; exfalso; omega))) ?_
  refine anyU_takeP (i := 2) (j := 18) (v := .int .i64 (k : Int)) 54 [] rfl rfl (by kernel_rfl) (by kernel_rfl) (by kernel_rfl) (fun _ _ _ h => h) (by kernel_rfl) (Ext.stable _) hCD (yieldsU_val rfl (fun u hu => by go_simp)) ?_
  refine anyU_takeP (i := 3) (j := 18) (v := .slice (some ⟨rb, ro, none⟩) k c) 55 [] rfl rfl (by kernel_rfl) (by kernel_rfl) (by kernel_rfl) (fun _ _ _ h => h) (by kernel_rfl) (Ext.stable _) hCD (yieldsU_val rfl (fun u hu => by go_simp <;> (intro h9; exfalso; omega))) ?_
  refine anyU_takeP (i := 5) (j := 18) (v := .slice (some ⟨rb, ro, none⟩) n c) 57 [] rfl rfl (by kernel_rfl) (by kernel_rfl) (by kernel_rfl) (fun _ _ _ h => h) (by kernel_rfl) (Ext.stable _) hCD (yieldsU_val rfl (fun u hu => by go_simp <;> (intro h9; exfalso; omega))) ?_
  refine anyU_takeP (i := 6) (j := 18) (v := .int .i64 (k : Int)) 58 [] rfl rfl (by kernel_rfl) (by kernel_rfl) (by kernel_rfl) (fun _ _ _ h => h) (by kernel_rfl) (Ext.stable _) hCD (yieldsU_val rfl (fun u hu => by go_simp)) ?_
  simp only [Act.put, List.setIfInBounds_toArray, List.set_cons_succ, List.set_cons_zero]
  refine anyU_takeP (i := 7) (j := 18) (v := .int .i64 (k + 1 : Int)) 59 [] rfl rfl (by kernel_rfl) (by kernel_rfl) (by kernel_rfl) (fun _ _ _ h => h) (by kernel_rfl) (Ext.stable _) hCD (yieldsU_val rfl (fun u hu => by go_simp)) ?_
  refine anyU_takeP (i := 8) (j := 18) (v := .slice p2 (n - (k + 1)) (c - (k + 1))) 60 [] rfl rfl (by kernel_rfl) (by kernel_rfl) (by kernel_rfl) (fun _ _ _ h => h) (by kernel_rfl) (Ext.stable _) hCD (yieldsU_val rfl (fun u hu => by rcases HP2.out with ⟨h1, h2⟩ | ⟨h1, h2⟩ <;> rw [h2] <;> go_simp <;> (intro h9; exfalso; omega))) ?_
  refine anyU_takeP (i := 10) (j := 18) (v := .slice q 0 d) 62 [] rfl rfl (by kernel_rfl) (by kernel_rfl) (by kernel_rfl) (fun _ _ _ h => h) (by kernel_rfl) (Ext.stable _) hCD (yieldsU_val rfl (fun u hu => by go_simp)) ?_
  refine anyU_takeP (i := 11) (j := 18) (v := .int .i64 a) 63 [] rfl rfl (by kernel_rfl) (by kernel_rfl) (by kernel_rfl) (fun _ _ _ h => h) (by kernel_rfl) (Ext.stable _) hCD (yieldsU_val rfl (fun u hu => by go_simp)) ?_
  refine anyU_takeP (i := 12) (j := 18) (v := .int .i64 b) 64 [] rfl rfl (by kernel_rfl) (by kernel_rfl) (by kernel_rfl) (fun _ _ _ h => h) (by kernel_rfl) (Ext.stable _) hCD (yieldsU_val rfl (fun u hu => by go_simp)) ?_
  simp only [Act.put, List.setIfInBounds_toArray, List.set_cons_succ, List.set_cons_zero]
  refine anyU_one 0 8 _ rfl rfl (by kernel_rfl) ?_
  intro u1 hu
  go_wp2_with fail
  change ∃ C' : World → Prop, _ ∧ _ ∧ _ ∧ anyU _ _ _ _ _ _ 8 _ _ _
  have O1 := Lib.hid (show OwnR (u1.alloc (.cells #[] 40)) V.heap.size (.slice (some ⟨u1.heap.size, 0, none⟩) 0 0) [] from ownR_new _ hu.size)
  have E1 := Lib.hid (Ext.trans hu (bel_alloc1 u1 (.cells #[] 40)))
  generalize World.alloc u1 _ = u2 at O1 E1 ⊢
  generalize u1.heap.size = bb at O1 ⊢
  clear hu
  have hST1 : Stable (fun z => Ext V z ∧ OwnR z V.heap.size (.slice (some ⟨bb, 0, none⟩) 0 0) ([])) := ((Ext.stable V).and (fun y z h k => ownR_below h k))
  have hF1 : ∀ z, (fun z => Ext V z ∧ OwnR z V.heap.size (.slice (some ⟨bb, 0, none⟩) 0 0) ([])) z → Ext V z := fun z hz => hz.1
  refine anchorF (fun z => Ext V z ∧ OwnR z V.heap.size (.slice (some ⟨bb, 0, none⟩) 0 0) ([])) (fun z hz => hz.1) hST1 ⟨E1.out, O1.out⟩ ?_
  (try simp only [Act.put])
  clear O1 E1
  refine anyU_one 4 7 _ rfl rfl (by kernel_rfl) ?_
  intro u3 hu
  have O3 := Lib.hid hu.2
  have E3 := Lib.hid hu.1
  clear hu
  go_wp2_with (at_builtin; refine appR rfl (.tmp 52) (.tmp 55) rfl V.heap.size (.slice (some ⟨bb, 0, none⟩) 0 0) [] rfl O3.out (some ⟨rb, ro, none⟩) k c (rs.take k) rfl (V1.out.below E3.out) (by simp; omega) E3.out.size ?_; intro v4 u4 ho hg; rw [List.nil_append] at ho; have O4 := Lib.hid ho; have E4 := Lib.hid (show Ext V u4 from bel_grownR E3.out O3.out hg E3.out.size); clear ho hg)
  change ∃ C' : World → Prop, _ ∧ _ ∧ _ ∧ anyU _ _ _ _ _ _ 7 _ _ _
  have hST2 : Stable (fun z => Ext V z ∧ OwnR z V.heap.size v4 (rs.take k)) := ((Ext.stable V).and (fun y z h k => ownR_below h k))
  have hF2 : ∀ z, (fun z => Ext V z ∧ OwnR z V.heap.size v4 (rs.take k)) z → Ext V z := fun z hz => hz.1
  refine anchorF (fun z => Ext V z ∧ OwnR z V.heap.size v4 (rs.take k)) (fun z hz => hz.1) hST2 ⟨E4.out, O4.out⟩ ?_
  (try simp only [Act.put])
  clear O4 E4 O3 E3
  refine anyU_one 9 6 _ rfl rfl (by kernel_rfl) ?_
  intro u5 hu
  have O5 := Lib.hid hu.2
  have E5 := Lib.hid hu.1
  clear hu
  go_wp2_with (at_builtin; refine appR rfl (.tmp 56) (.tmp 60) rfl V.heap.size v4 (rs.take k) rfl O5.out p2 (n - (k + 1)) (c - (k + 1)) (rs.drop (k + 1)) rfl (V2.out.below E5.out) (by rw [List.length_take, List.length_drop]; omega) E5.out.size ?_; intro v6 u6 ho hg; rw [hRS.out] at ho; have O6 := Lib.hid ho; have E6 := Lib.hid (show Ext V u6 from bel_grownR E5.out O5.out hg E5.out.size); clear ho hg)
  change ∃ C' : World → Prop, _ ∧ _ ∧ _ ∧ anyU _ _ _ _ _ _ 6 _ _ _
  have hST3 : Stable (fun z => Ext V z ∧ OwnR z V.heap.size v6 (rs')) := ((Ext.stable V).and (fun y z h k => ownR_below h k))
  have hF3 : ∀ z, (fun z => Ext V z ∧ OwnR z V.heap.size v6 (rs')) z → Ext V z := fun z hz => hz.1
  refine anchorF (fun z => Ext V z ∧ OwnR z V.heap.size v6 (rs')) (fun z hz => hz.1) hST3 ⟨E6.out, O6.out⟩ ?_
  (try simp only [Act.put])
  clear O6 E6 O5 E5 V1 V2 HP2
  refine anyU_one 13 5 _ rfl rfl (by kernel_rfl) ?_
  intro u7 hu
  obtain ⟨px, cx, hvx, hVx⟩ := ownR_V hu.2 hRG.out
  subst hvx
  have VX := Lib.hid hVx
  have E7 := Lib.hid (show Below V.heap.size V u7 from hu.1)
  clear hu hVx
  go_wp2_with (go_at_call 10; (with_reducible refine (cmom_ah px rs'.length cx rs' q 0 d gs a b u7 VX (Lib.hid (GV.out.below E7.out)) 0 KR hER hKR).mono ?_); rintro e u8 ⟨v8, rfl, ho, hb⟩; have O8 := Lib.hid (ownI_mono ho E7.out.size); have E8 := Lib.hid (show Ext V u8 from Ext.trans E7.out hb); clear ho hb)
  change ∃ C' : World → Prop, _ ∧ _ ∧ _ ∧ anyU _ _ _ _ _ _ 5 _ _ _
  have hST4 : Stable (fun z => Ext V z ∧ OwnI z V.heap.size v8 KR) := ((Ext.stable V).and (fun y z h k => ownI_below h k))
  have hF4 : ∀ z, (fun z => Ext V z ∧ OwnI z V.heap.size v8 KR) z → Ext V z := fun z hz => hz.1
  refine anchorF (fun z => Ext V z ∧ OwnI z V.heap.size v8 KR) (fun z hz => hz.1) hST4 ⟨E8.out, O8.out⟩ ?_
  (try simp only [Act.put])
  clear VX E7 O8 E8
  refine anyU_takeP (i := 14) (j := 18) (v := .tuple #[v8, .int .i64 0]) 51 [] rfl rfl (by kernel_rfl) (by kernel_rfl) (by kernel_rfl) (fun _ _ _ h => h) (by kernel_rfl) hST4 hF4 (yieldsU_val rfl (fun u hu => by go_simp)) ?_
  refine anyU_takeP (i := 15) (j := 18) (v := v8) 66 [] rfl rfl (by kernel_rfl) (by kernel_rfl) (by kernel_rfl) (fun _ _ _ h => h) (by kernel_rfl) hST4 hF4 (yieldsU_val rfl (fun u hu => by go_simp)) ?_
  refine anyU_takeP (i := 16) (j := 18) (v := .int .i64 0) 67 [] rfl rfl (by kernel_rfl) (by kernel_rfl) (by kernel_rfl) (fun _ _ _ h => h) (by kernel_rfl) hST4 hF4 (yieldsU_val rfl (fun u hu => by go_simp)) ?_
  simp only [Act.put, List.setIfInBounds_toArray, List.set_cons_succ, List.set_cons_zero]
  refine anyU_one 17 1 _ rfl rfl (by kernel_rfl) ?_
  intro u9 hu9
  go_wp2_with fail
  change ∃ C' : World → Prop, _ ∧ _ ∧ _ ∧ anyU _ _ _ _ _ _ 1 _ _ _
  refine anchorF (fun z => Ext V z ∧ OwnI z V.heap.size v8 KR) (fun z hz => hz.1) hST4 hu9 ?_
  (try simp only [Act.put])
  refine anyU_tail 18 [] rfl rfl (by decide) (by kernel_rfl) ?_
  intro u hu
  simp only [Act.put, List.filterMap_cons, List.filterMap_nil, List.getElem?_cons_succ, List.getElem?_cons_zero]
  obtain ⟨pr, cr, hvx, hx4⟩ := ownI_ints hu.2
  subst hvx
  have M3 := Lib.hid hx4
  have hb : Ext V u := hu.1
  have B3 := Lib.hid (bel_trans BV.out hb)
  have R3 := Lib.hid (RV.out.below hb)
  have G3 := Lib.hid (GV.out.below hb)
  have L3 := Lib.hid (LV.out.below hb)

  clear hu hx4 hb hST1 hF1 hST2 hF2 hST3 hF3 hST4 hF4 BV RV GV LV 
  rename World => w3
  have HNR : KR.length ≤ 2000 := by rw [← hKR.out]; exact momR_len
  go_wp2_with (go_at_call 18; (with_reducible refine (within_is pr pl KR.length cr L.length cl KR L f w3 M3 L3 (by omega) (by omega) (Lib.hid (by rw [hFR.out, hL.out]))).mono ?_); rintro e w4 ⟨rfl, hb⟩; have B4 := Lib.hid (bel_trans B3.out hb); have R4 := Lib.hid (R3.out.below hb); have G4 := Lib.hid (G3.out.below hb); have L4 := Lib.hid (L3.out.below hb); clear hb)
  go_ret
  exact ⟨rfl, B4.out⟩
end Go.Proofs.Ytilokkkodocoiaa
