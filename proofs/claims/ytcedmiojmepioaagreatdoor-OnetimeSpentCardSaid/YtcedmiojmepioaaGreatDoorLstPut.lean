/- The reference's Put. -/
import Derived.Test.YtcedmiojmepioaaGreatDoorLstRf3
import Derived.Test.YtcedmiojmepioaaGreatDoorLstZ
namespace Go.Proofs.YtcedmiojmepioaaGreatDoor
open Go.RowKit
set_option linter.unusedVariables false
set_option linter.unusedSimpArgs false

theorem gr_belowS {w w' : World} {r : Option Nat} {B : Nat} (h : w.grownBy w' r) (hB : B ≤ w.heap.size) (hr : ∀ g, r = some g → B ≤ g) : Below B w w' :=
  ⟨h.os, h.tape, h.output, h.size, fun k hk => h.block k (by omega) (fun e => by have := hr k e.symm; omega)⟩
/-- append of digests to a row of one's own, from anywhere -/
theorem list_appP {ops : Array Oper} {rest : List Oper} {o : Oper} {a : Act} {w : World} {Q : Exit → Act → World → Prop} (hgd : o.guard = none) (s x : Operand)
    (ho : o.op = .call { callee := .builtin .append, args := #[s, x], argTypes := #[36, 36] }) (B : Nat) (v : Value) (n : Nat) (fs : List Int) (hs : a.eval s = v) (hown : OwnR w B v n fs)
    (p : Option Addr) (m c : Nat) (zs : List Int) (hx : a.eval x = .slice p m c) (hnil : p = none → m = 0 ∧ c = 0) (hzl : zs.length = 32 * m) (hz : ∀ q, p = some q → ∀ j u, (bv zs)[j]? = some u → w.cell? (q.add j) = some u) (hlen : n + m ≤ 1000000000) (hB : B ≤ w.heap.size)
    (h : ∀ v' w', OwnR w' B v' (n + m) (fs ++ zs) → w.grownBy w' v.ownBlock → wpList Tryz.prog ops Q rest (a.put o.dst v') w') : wpList Tryz.prog ops Q (o :: rest) a w := by
  obtain ⟨i0, hi, hz0, hz1, hz2⟩ := info_parts infoD
  cases p with
  | none =>
    obtain ⟨rfl, rfl⟩ := hnil rfl
    obtain rfl : zs = [] := List.eq_nil_of_length_eq_zero (by omega)
    have hown' : w.ownsRow B 25 i0.size v n (bv fs) := by rw [hz1]; exact hown
    refine wpList_append_own_none hgd s x 36 ho B 25 i0 32 Tryz.underlying36 hi v n (bv fs) hs hown hx ?_
    exact h v w (by simpa using hown) ⟨rfl, rfl, rfl, Nat.le_refl _, fun _ _ _ => rfl⟩
  | some q =>
    refine wpList_plain hgd fun K hK => ?_
    refine wp_append_own w s x 36 ho B 25 i0 _ 32 32 Tryz.underlying36 hi hz0 hz1 hz2 (by simp [Value.cells, bv]) (by decide) v n (bv fs) hs hown q m c (bv zs) hx (by rw [bv_len]; omega) (hz q rfl) (bv_one zs) (by unfold maxLen; omega) (by omega) hB ?_
    intro v' w' h1 h2 h3
    exact hK _ _ (h v' w' (by unfold OwnR; rw [bv, List.map_append]; exact h1) h2)
set_option maxRecDepth 100000 in
set_option maxHeartbeats 8000000 in
theorem rput_some (l : List (List Int)) (d : List Int) (i n c b off : Nat) (w : World) (hd : Hid (Dgs l)) (hz : Hid (SrcL w (some ⟨b, off, none⟩) n c l)) (hn : n ≤ 4000) (hn0 : 0 < n) (hlt : b < w.heap.size) (hb : Hid (BytesAt w b off l.flatten)) (ld : Hid (d.length = 32)) (hp : Hid (IsPos l d i)) :
    Calls Tryz.prog 34 #[.slice (some ⟨b, off, none⟩) n c, .agg (bv d).toArray] w fun e w' => ∃ v', e = .returned v' ∧ OwnR w' w.heap.size v' (n + 1) (putD l d i).flatten ∧ Below w.heap.size w w' := by
  have hnl := Lib.hid hz.out.1
  have hin : i ≤ n := by rw [hnl.out]; exact hp.out.1
  have D0 := Lib.hid (Dg.box w ld.out)
  have B0 := Lib.hid (bel_alloc1 w (.cells (bv d).toArray 25))
  go_enter Tryz.func34, Tryz.ntmps34
  go_upto_region 2 with fail
  go_loopw [5] (fun y wr => ∃ k : Nat, k ≤ i ∧ y = .int .i64 k ∧ Hid (Below w.heap.size w wr) ∧ Hid (Dg wr w.heap.size d)) (fun y _ => n + 1 - (intOf y).toNat)
  case atStart => exact ⟨0, by omega, rfl, B0, D0⟩
  case round =>
    clear B0 D0
    obtain ⟨k, hk, rfl, HB, DB⟩ := hrel
    by_cases hkl : k < n
    · have t1 : (k : Int) < n := by omega
      have h0 : ¬ ((k : Int) < 0) := by omega
      have J1 := Lib.hid (show k < l.length by rw [← hnl.out]; omega)
      obtain ⟨xj, hxj⟩ : ∃ x, l.getD k [] = x := ⟨_, rfl⟩
      have LXj := Lib.hid (show xj.length = 32 by rw [← hxj]; exact (hd.out.get J1.out).1)
      have HXJ := Lib.hid hxj
      clear hxj
      obtain ⟨vv, hvv⟩ : ∃ v, ltD xj d = v := ⟨_, rfl⟩
      have HVV := Lib.hid hvv
      clear hvv
      go_upto_region 2 with fail
      refine wp_region_any (by kernel_rfl) ?_
      change wpAny _ _ _ _ _ _ _ (World.drew _)
      generalize hWD : World.drew _ = W1
      have B1 := Lib.hid (show Below w.heap.size w W1 by rw [← hWD]; exact HB.out.drew)
      have D1 := Lib.hid (show Dg W1 w.heap.size d by rw [← hWD]; exact DB.out)
      have Z1 := Lib.hid (show BytesAt W1 b off l.flatten by rw [← hWD]; exact hb.out.below HB.out.drew hlt)
      have lt1 := Lib.hid (show b < W1.heap.size from Nat.lt_of_lt_of_le hlt B1.out.size)
      clear hWD
      have hCD : ∀ u, Ext W1 u → Ext W1 u := fun u hu => hu
      refine region_U (D := Ext W1) (Ext W1) [11] (Ext.refl W1) ?_
      refine anyU_takeD (i := 0) (v := .int .i64 (k : Int)) 7 rfl rfl (by kernel_rfl) (by kernel_rfl) (by kernel_rfl) (fun _ _ _ h => h) (by kernel_rfl) (Ext.stable _) hCD (yieldsU_val rfl (fun u hu => by go_simp)) ?_
      refine anyU_takeD (i := 1) (v := .slice (some ⟨b, off, none⟩) n c) 8 rfl rfl (by kernel_rfl) (by kernel_rfl) (by kernel_rfl) (fun _ _ _ h => h) (by kernel_rfl) (Ext.stable _) hCD (yieldsU_val rfl (fun u hu => by go_simp)) ?_
      refine anyU_takeD (i := 2) (v := .int .i64 (n : Int)) 9 rfl rfl (by kernel_rfl) (by kernel_rfl) (by kernel_rfl) (fun _ _ _ h => h) (by kernel_rfl) (Ext.stable _) hCD (yieldsU_val rfl (fun u hu => by go_simp)) ?_
      refine anyU_takeD (i := 3) (v := .bool true) 10 rfl rfl (by kernel_rfl) (by kernel_rfl) (by kernel_rfl) (fun _ _ _ h => h) (by kernel_rfl) (Ext.stable _) hCD (yieldsU_val rfl (fun u hu => by go_simp)) ?_
      refine anyU_takeD (i := 4) (v := .bool true) 11 rfl rfl (by kernel_rfl) (by kernel_rfl) (by kernel_rfl) (fun _ _ _ h => h) (by kernel_rfl) (Ext.stable _) hCD (yieldsU_val rfl (fun u hu => by go_simp)) ?_
      simp only [Act.put, List.setIfInBounds_toArray, List.set_cons_succ, List.set_cons_zero]
      refine anyU_takeD (i := 5) (v := .slice (some ⟨b, off, none⟩) n c) 12 rfl rfl (by kernel_rfl) (by kernel_rfl) (by kernel_rfl) (fun _ _ _ h => h) (by kernel_rfl) (Ext.stable _) hCD (yieldsU_val rfl (fun u hu => by go_simp)) ?_
      refine anyU_takeD (i := 6) (v := .int .i64 (k : Int)) 13 rfl rfl (by kernel_rfl) (by kernel_rfl) (by kernel_rfl) (fun _ _ _ h => h) (by kernel_rfl) (Ext.stable _) hCD (yieldsU_val rfl (fun u hu => by go_simp)) ?_
      refine anyU_takeD (i := 7) (v := .pointer (some ⟨b, off + k * 32, none⟩)) 14 rfl rfl (by kernel_rfl) (by kernel_rfl) (by kernel_rfl) (fun _ _ _ h => h) (by kernel_rfl) (Ext.stable _) hCD (yieldsU_val rfl (fun u hu => by go_simp)) ?_
      refine anyU_takeD (i := 8) (v := .agg (bv xj).toArray) 15 rfl rfl (by kernel_rfl) (by kernel_rfl) (by kernel_rfl) (fun _ _ _ h => h) (by kernel_rfl) (Ext.stable _) hCD (yieldsU_of_C (yields_loadM (by rfl) (.tmp 14) rfl b (off + k * 32) rfl xj LXj.out (fun u hu => by rw [← HXJ.out]; exact flat_at hd.out (Z1.out.below hu lt1.out) J1.out))) ?_
      refine anyU_takeD (i := 9) (v := .agg (bv d).toArray) 16 rfl rfl (by kernel_rfl) (by kernel_rfl) (by kernel_rfl) (fun _ _ _ h => h) (by kernel_rfl) (Ext.stable _) hCD (yieldsU_of_C (yields_loadD (by rfl) (.tmp 3) rfl w.heap.size rfl d ld.out (fun u hu => D1.out.bel hu))) ?_
      simp only [Act.put, List.setIfInBounds_toArray, List.set_cons_succ, List.set_cons_zero]
      refine anyU_takeD (i := 10) (v := .bool vv) 17 rfl rfl (by kernel_rfl) (by kernel_rfl) (by kernel_rfl) (fun _ _ _ h => h) (by kernel_rfl) (Ext.stable _) hCD (yieldsU_call rfl 35 _ _ rfl #[.agg (bv xj).toArray, .agg (bv d).toArray] (by simp [Act.eval, Act.put]) (fun u => by go_simp) (fun u hu => by have h := rbefore_is xj d u LXj ld; rw [HVV.out] at h; exact h)) ?_
      refine anyU_tail 11 [] rfl rfl (by decide) (by kernel_rfl) ?_
      intro u3 hu3
      simp only [Act.put, List.filterMap_cons, List.filterMap_nil, List.getElem?_cons_succ, List.getElem?_cons_zero]
      have B3 := Lib.hid (bel_trans B1.out hu3)
      have D3 := Lib.hid (D1.out.bel hu3)
      have Z3 := Lib.hid (Z1.out.below hu3 lt1.out)
      have lt3 := Lib.hid (show b < u3.heap.size from Nat.lt_of_lt_of_le hlt B3.out.size)
      clear hu3 D1 B1 Z1 lt1
      cases vv with
      | true =>
        have hki : k < i := by
          apply Nat.lt_of_not_le; intro hle
          have := hp.out.2.2 k hle J1.out
          rw [HXJ.out, HVV.out] at this; cases this
        go_wp2_with fail
        go_roundw
        case rel => exact ⟨k + 1, by omega, by simp, B3, D3⟩
        case measure => simp [intOf]; omega
      | false =>
        have hki : k = i := by
          rcases Nat.lt_or_ge k i with h | h
          · have := hp.out.2.1 k h
            rw [HXJ.out, HVV.out] at this; cases this
          · omega
        have hkc : (k : Int) ≤ c := by have := hz.out.2.1; omega
        have hcm : (c : Int) ≤ 9223372036854775807 := by have := hz.out.2.2.1; unfold maxLen at this; omega
        have hck : ¬ (c = k) := by have := hz.out.2.1; omega
        have hkn : (k : Int) ≤ n := by omega
        subst hki
        clear HVV HXJ LXj
        go_upto_region 4 with fail
        refine wp_region_any (by kernel_rfl) ?_
        change wpAny _ _ _ _ _ _ _ (World.drew _)
        generalize hWD : World.drew _ = W
        have B4 := Lib.hid (show Below w.heap.size w W by rw [← hWD]; exact B3.out.drew)
        have D4 := Lib.hid (show Dg W w.heap.size d by rw [← hWD]; exact D3.out)
        have Z4 := Lib.hid (show BytesAt W b off l.flatten by rw [← hWD]; exact Z3.out)
        have lt4 := Lib.hid (show b < W.heap.size by rw [← hWD]; exact lt3.out)
        clear hWD
        have hCD : ∀ u, Ext W u → Ext W u := fun u hu => hu
        have hTN := Lib.hid (show (some ⟨b, off, none⟩ : Option Addr) = none → k = 0 ∧ c = 0 from fun h => by cases h)
        have hTL := Lib.hid (show (l.take k).flatten.length = 32 * k by rw [flat_len (hd.out.take k), List.length_take]; have := hnl.out; omega)
        have hDL := Lib.hid (show (l.drop k).flatten.length = 32 * (n - k) by rw [flat_len (hd.out.drop k), List.length_drop]; have := hnl.out; omega)
        have hTC := Lib.hid (show ∀ z, Ext W z → ∀ a, (some ⟨b, off, none⟩ : Option Addr) = some a → ∀ j u, (bv (l.take k).flatten)[j]? = some u → z.cell? (a.add j) = some u from fun z hz a ha => by
          injection ha with ha; subst ha
          exact cells_of (BytesAt.take' hd.out (Z4.out.below hz lt4.out) k))
        refine region_U (D := Ext W) (Ext W) [7, 8] (Ext.refl W) ?_
        refine anyU_takeD (i := 1) (v := .slice (some ⟨b, off, none⟩) n c) 22 rfl rfl (by kernel_rfl) (by kernel_rfl) (by kernel_rfl) (fun _ _ _ h => h) (by kernel_rfl) (Ext.stable _) hCD (yieldsU_val rfl (fun u hu => by go_simp)) ?_
        refine anyU_takeD (i := 2) (v := .int .i64 (k : Int)) 23 rfl rfl (by kernel_rfl) (by kernel_rfl) (by kernel_rfl) (fun _ _ _ h => h) (by kernel_rfl) (Ext.stable _) hCD (yieldsU_val rfl (fun u hu => by go_simp)) ?_
        refine anyU_takeD (i := 3) (v := .slice (some ⟨b, off, none⟩) k c) 24 rfl rfl (by kernel_rfl) (by kernel_rfl) (by kernel_rfl) (fun _ _ _ h => h) (by kernel_rfl) (Ext.stable _) hCD (yieldsU_val rfl (fun u hu => by go_simp)) ?_
        refine anyU_takeD (i := 5) (v := .agg (bv d).toArray) 26 rfl rfl (by kernel_rfl) (by kernel_rfl) (by kernel_rfl) (fun _ _ _ h => h) (by kernel_rfl) (Ext.stable _) hCD (yieldsU_of_C (yields_loadD (by rfl) (.tmp 3) rfl w.heap.size rfl d ld.out (fun u hu => D4.out.bel hu))) ?_
        simp only [Act.put, List.setIfInBounds_toArray, List.set_cons_succ, List.set_cons_zero]
        refine anyU_two 0 6 4 _ _ rfl rfl rfl rfl (by kernel_rfl) ?rA ?rB
        case rA =>
          intro u1 hu
          go_wp2_with fail
          change ∃ C' : World → Prop, _ ∧ _ ∧ _ ∧ anyU _ _ _ _ _ _ 4 _ _ _
          have hE : Ext W u1 := hu
          have lw := Below.size hE
          have O0 := Lib.hid (show OwnR (u1.alloc (.cells #[] 25)) W.heap.size (.slice (some ⟨u1.heap.size, 0, none⟩) 0 0) 0 [] from ownR_base (World.ownsRow_made u1 #[] 0 (Nat.le_refl _) (by unfold maxLen; omega) rfl) lw)
          have E0 := Lib.hid (Ext.trans hE (bel_alloc1 u1 (.cells #[] 25)))
          generalize World.alloc u1 _ = u2 at O0 E0 ⊢
          generalize u1.heap.size = eb at O0 ⊢
          clear hu hE lw
          refine anchorF (fun z => Ext W z ∧ OwnR z W.heap.size (.slice (some ⟨eb, 0, none⟩) 0 0) 0 []) (fun z hz => hz.1) (Stable.and (Ext.stable W) (fun y z h k => ownR_below h k)) ⟨E0.out, O0.out⟩ ?_
          (try simp only [Act.put])
          refine anyU_two 4 6 3 _ _ rfl rfl rfl rfl (by kernel_rfl) ?rA1 ?rA2
          case rA1 =>
            intro u5 hu
            have hE : Ext W u5 := hu.1
            have lw5 := Below.size hE
            refine list_appP rfl (.tmp 21) (.tmp 24) rfl W.heap.size (.slice (some ⟨eb, 0, none⟩) 0 0) 0 [] rfl hu.2 (some ⟨b, off, none⟩) k c (l.take k).flatten rfl hTN.out hTL.out (fun a ha => hTC.out u5 hE a ha) (by omega) lw5 ?_
            intro v1 u6 o1 g1
            change ∃ C' : World → Prop, _ ∧ _ ∧ _ ∧ anyU _ _ _ _ _ _ 3 _ _ _
            have O2 := Lib.hid (show OwnR u6 W.heap.size v1 k (l.take k).flatten by simpa using o1)
            have E2 := Lib.hid (show Ext W u6 from Below.trans hE (gr_belowS g1 lw5 (fun q hq => by cases hq; exact (World.ownsRow.lt hu.2 eb rfl).1)))
            clear hu hE o1 g1
            refine anchorF (fun z => Ext W z ∧ OwnR z W.heap.size v1 k (l.take k).flatten) (fun z hz => hz.1) (Stable.and (Ext.stable W) (fun y z h k => ownR_below h k)) ⟨E2.out, O2.out⟩ ?_
            (try simp only [Act.put])
            refine anyU_one 6 2 _ rfl rfl (by kernel_rfl) ?_
            intro u3 hu
            refine list_build1 (by rfl) (.tmp 26) rfl (bv d) rfl (by rw [bv_len]; exact ld.out) ?_
            change ∃ C' : World → Prop, _ ∧ _ ∧ _ ∧ anyU _ _ _ _ _ _ 2 _ _ _
            have hE : Ext W u3 := hu.1
            have X1 := Lib.hid (Dg.box u3 ld.out)
            have E1 := Lib.hid (Ext.trans hE (bel_alloc1 u3 (.cells (bv d).toArray 25)))
            have O1 := Lib.hid (ownR_below hu.2 (bel_alloc1 u3 (.cells (bv d).toArray 25)))
            generalize World.alloc u3 _ = u4 at X1 E1 O1 ⊢
            generalize u3.heap.size = xb at X1 ⊢
            clear hu hE
            refine anchorF (fun z => Ext W z ∧ OwnR z W.heap.size v1 k (l.take k).flatten ∧ Dg z xb d) (fun z hz => hz.1) (Stable.and (Ext.stable W) (Stable.and (fun y z h k => ownR_below h k) (fun y z h k => Dg.bel h k))) ⟨E1.out, O1.out, X1.out⟩ ?_
            (try simp only [Act.put])
            refine anyU_tail 7 [8] rfl rfl (by decide) (by kernel_rfl) ?_
            intro u7 hu7
            simp only [Act.put, List.filterMap_cons, List.filterMap_nil, List.getElem?_cons_succ, List.getElem?_cons_zero]
            have O7 := Lib.hid hu7.2.1
            have X7 := Lib.hid hu7.2.2
            have E7 := Lib.hid hu7.1
            have lw7 := Below.size E7.out
            clear hu7
            refine (list_appP rfl (.tmp 25) (.tmp 27) rfl W.heap.size v1 k (l.take k).flatten rfl O7.out (some ⟨xb, 0, none⟩) 1 1 d rfl (fun h => by cases h) (by rw [X7.out.2]) (fun a ha => by injection ha with ha; subst ha; exact cells_of X7.out.bytes) (by omega) lw7 ?_)
            intro v2 u8 o8 g8
            have O8 := Lib.hid o8
            have E8 := Lib.hid (show Ext W u8 from Below.trans E7.out (gr_belowS g8 lw7 (fun q hq => (World.ownsRow.lt O7.out q hq).1)))
            have lw8 := Below.size E8.out
            clear o8 g8 O7 X7
            go_upto_region 5 with fail
            go_wp2_with (at_builtin; refine list_appP rfl (.tmp 29) (.tmp 32) rfl W.heap.size v2 (k + 1) ((l.take k).flatten ++ d) rfl O8.out (some ⟨b, off + k * 32, none⟩) (n - k) (c - k) (l.drop k).flatten rfl (fun h => by cases h) hDL.out (fun a ha => by injection ha with ha; subst ha; exact cells_of (BytesAt.drop' hd.out (Z4.out.below E8.out lt4.out) (by have := hnl.out; omega))) (by omega) lw8 ?_)
            intro v3 u9 o9 g9
            have O9 := Lib.hid o9
            have B9 := Lib.hid (bel_trans B4.out (show Ext W u9 from Below.trans E8.out (gr_belowS g9 lw8 (fun q hq => (World.ownsRow.lt O8.out q hq).1))))
            clear o9 g9
            go_wp2_with fail
            go_ret
            refine ⟨v3, rfl, ?_, B9.out⟩
            have e1 : k + 1 + (n - k) = n + 1 := by omega
            have e2 : (l.take k).flatten ++ (d ++ (l.drop k).flatten) = (putD l d k).flatten := by simp [putD]
            rw [← e1, ← e2]
            exact ownR_base O9.out B4.out.size
          case rA2 =>
            intro u3 hu
            refine list_build1 (by rfl) (.tmp 26) rfl (bv d) rfl (by rw [bv_len]; exact ld.out) ?_
            change ∃ C' : World → Prop, _ ∧ _ ∧ _ ∧ anyU _ _ _ _ _ _ 3 _ _ _
            have hE : Ext W u3 := hu.1
            have X1 := Lib.hid (Dg.box u3 ld.out)
            have E1 := Lib.hid (Ext.trans hE (bel_alloc1 u3 (.cells (bv d).toArray 25)))
            have O1 := Lib.hid (ownR_below hu.2 (bel_alloc1 u3 (.cells (bv d).toArray 25)))
            have ne1 : eb ≠ u3.heap.size := by have := (World.ownsRow.lt hu.2 eb rfl).2; omega
            generalize World.alloc u3 _ = u4 at X1 E1 O1 ⊢
            generalize u3.heap.size = xb at X1 ne1 ⊢
            clear hu hE
            refine anchorF (fun z => Ext W z ∧ OwnR z W.heap.size (.slice (some ⟨eb, 0, none⟩) 0 0) 0 [] ∧ Dg z xb d) (fun z hz => hz.1) (Stable.and (Ext.stable W) (Stable.and (fun y z h k => ownR_below h k) (fun y z h k => Dg.bel h k))) ⟨E1.out, O1.out, X1.out⟩ ?_
            (try simp only [Act.put])
            refine anyU_one 4 2 _ rfl rfl (by kernel_rfl) ?_
            intro u5 hu
            have hE : Ext W u5 := hu.1
            have lw5 := Below.size hE
            refine list_appP rfl (.tmp 21) (.tmp 24) rfl W.heap.size (.slice (some ⟨eb, 0, none⟩) 0 0) 0 [] rfl hu.2.1 (some ⟨b, off, none⟩) k c (l.take k).flatten rfl hTN.out hTL.out (fun a ha => hTC.out u5 hE a ha) (by omega) lw5 ?_
            intro v1 u6 o1 g1
            change ∃ C' : World → Prop, _ ∧ _ ∧ _ ∧ anyU _ _ _ _ _ _ 2 _ _ _
            have O2 := Lib.hid (show OwnR u6 W.heap.size v1 k (l.take k).flatten by simpa using o1)
            have E2 := Lib.hid (show Ext W u6 from Below.trans hE (gr_belowS g1 lw5 (fun q hq => by cases hq; exact (World.ownsRow.lt hu.2.1 eb rfl).1)))
            have X2 := Lib.hid (show Dg u6 xb d from ⟨(g1.block xb hu.2.2.lt (fun e => by injection e with e; exact (Ne.symm ne1) e)).trans hu.2.2.1, hu.2.2.2⟩)
            clear hu hE o1 g1
            refine anchorF (fun z => Ext W z ∧ OwnR z W.heap.size v1 k (l.take k).flatten ∧ Dg z xb d) (fun z hz => hz.1) (Stable.and (Ext.stable W) (Stable.and (fun y z h k => ownR_below h k) (fun y z h k => Dg.bel h k))) ⟨E2.out, O2.out, X2.out⟩ ?_
            (try simp only [Act.put])
            refine anyU_tail 7 [8] rfl rfl (by decide) (by kernel_rfl) ?_
            intro u7 hu7
            simp only [Act.put, List.filterMap_cons, List.filterMap_nil, List.getElem?_cons_succ, List.getElem?_cons_zero]
            have O7 := Lib.hid hu7.2.1
            have X7 := Lib.hid hu7.2.2
            have E7 := Lib.hid hu7.1
            have lw7 := Below.size E7.out
            clear hu7
            refine (list_appP rfl (.tmp 25) (.tmp 27) rfl W.heap.size v1 k (l.take k).flatten rfl O7.out (some ⟨xb, 0, none⟩) 1 1 d rfl (fun h => by cases h) (by rw [X7.out.2]) (fun a ha => by injection ha with ha; subst ha; exact cells_of X7.out.bytes) (by omega) lw7 ?_)
            intro v2 u8 o8 g8
            have O8 := Lib.hid o8
            have E8 := Lib.hid (show Ext W u8 from Below.trans E7.out (gr_belowS g8 lw7 (fun q hq => (World.ownsRow.lt O7.out q hq).1)))
            have lw8 := Below.size E8.out
            clear o8 g8 O7 X7
            go_upto_region 5 with fail
            go_wp2_with (at_builtin; refine list_appP rfl (.tmp 29) (.tmp 32) rfl W.heap.size v2 (k + 1) ((l.take k).flatten ++ d) rfl O8.out (some ⟨b, off + k * 32, none⟩) (n - k) (c - k) (l.drop k).flatten rfl (fun h => by cases h) hDL.out (fun a ha => by injection ha with ha; subst ha; exact cells_of (BytesAt.drop' hd.out (Z4.out.below E8.out lt4.out) (by have := hnl.out; omega))) (by omega) lw8 ?_)
            intro v3 u9 o9 g9
            have O9 := Lib.hid o9
            have B9 := Lib.hid (bel_trans B4.out (show Ext W u9 from Below.trans E8.out (gr_belowS g9 lw8 (fun q hq => (World.ownsRow.lt O8.out q hq).1))))
            clear o9 g9
            go_wp2_with fail
            go_ret
            refine ⟨v3, rfl, ?_, B9.out⟩
            have e1 : k + 1 + (n - k) = n + 1 := by omega
            have e2 : (l.take k).flatten ++ (d ++ (l.drop k).flatten) = (putD l d k).flatten := by simp [putD]
            rw [← e1, ← e2]
            exact ownR_base O9.out B4.out.size
        case rB =>
          intro u3 hu
          refine list_build1 (by rfl) (.tmp 26) rfl (bv d) rfl (by rw [bv_len]; exact ld.out) ?_
          change ∃ C' : World → Prop, _ ∧ _ ∧ _ ∧ anyU _ _ _ _ _ _ 4 _ _ _
          have hE : Ext W u3 := hu
          have X1 := Lib.hid (Dg.box u3 ld.out)
          have E1 := Lib.hid (Ext.trans hE (bel_alloc1 u3 (.cells (bv d).toArray 25)))
          generalize World.alloc u3 _ = u4 at X1 E1 ⊢
          generalize u3.heap.size = xb at X1 ⊢
          clear hu hE
          refine anchorF (fun z => Ext W z ∧ Dg z xb d) (fun z hz => hz.1) (Stable.and (Ext.stable W) (fun y z h k => Dg.bel h k)) ⟨E1.out, X1.out⟩ ?_
          (try simp only [Act.put])
          refine anyU_one 0 3 _ rfl rfl (by kernel_rfl) ?_
          intro u1 hu
          go_wp2_with fail
          change ∃ C' : World → Prop, _ ∧ _ ∧ _ ∧ anyU _ _ _ _ _ _ 3 _ _ _
          have hE : Ext W u1 := hu.1
          have lw := Below.size hE
          have O0 := Lib.hid (show OwnR (u1.alloc (.cells #[] 25)) W.heap.size (.slice (some ⟨u1.heap.size, 0, none⟩) 0 0) 0 [] from ownR_base (World.ownsRow_made u1 #[] 0 (Nat.le_refl _) (by unfold maxLen; omega) rfl) lw)
          have E0 := Lib.hid (Ext.trans hE (bel_alloc1 u1 (.cells #[] 25)))
          have X0 := Lib.hid (hu.2.alloc (.cells #[] 25))
          have ne0 : xb ≠ u1.heap.size := by have := hu.2.lt; omega
          generalize World.alloc u1 _ = u2 at O0 E0 X0 ⊢
          generalize u1.heap.size = eb at O0 ne0 ⊢
          clear hu hE lw
          refine anchorF (fun z => Ext W z ∧ OwnR z W.heap.size (.slice (some ⟨eb, 0, none⟩) 0 0) 0 [] ∧ Dg z xb d) (fun z hz => hz.1) (Stable.and (Ext.stable W) (Stable.and (fun y z h k => ownR_below h k) (fun y z h k => Dg.bel h k))) ⟨E0.out, O0.out, X0.out⟩ ?_
          (try simp only [Act.put])
          refine anyU_one 4 2 _ rfl rfl (by kernel_rfl) ?_
          intro u5 hu
          have hE : Ext W u5 := hu.1
          have lw5 := Below.size hE
          refine list_appP rfl (.tmp 21) (.tmp 24) rfl W.heap.size (.slice (some ⟨eb, 0, none⟩) 0 0) 0 [] rfl hu.2.1 (some ⟨b, off, none⟩) k c (l.take k).flatten rfl hTN.out hTL.out (fun a ha => hTC.out u5 hE a ha) (by omega) lw5 ?_
          intro v1 u6 o1 g1
          change ∃ C' : World → Prop, _ ∧ _ ∧ _ ∧ anyU _ _ _ _ _ _ 2 _ _ _
          have O2 := Lib.hid (show OwnR u6 W.heap.size v1 k (l.take k).flatten by simpa using o1)
          have E2 := Lib.hid (show Ext W u6 from Below.trans hE (gr_belowS g1 lw5 (fun q hq => by cases hq; exact (World.ownsRow.lt hu.2.1 eb rfl).1)))
          have X2 := Lib.hid (show Dg u6 xb d from ⟨(g1.block xb hu.2.2.lt (fun e => by injection e with e; exact ne0 e)).trans hu.2.2.1, hu.2.2.2⟩)
          clear hu hE o1 g1
          refine anchorF (fun z => Ext W z ∧ OwnR z W.heap.size v1 k (l.take k).flatten ∧ Dg z xb d) (fun z hz => hz.1) (Stable.and (Ext.stable W) (Stable.and (fun y z h k => ownR_below h k) (fun y z h k => Dg.bel h k))) ⟨E2.out, O2.out, X2.out⟩ ?_
          (try simp only [Act.put])
          refine anyU_tail 7 [8] rfl rfl (by decide) (by kernel_rfl) ?_
          intro u7 hu7
          simp only [Act.put, List.filterMap_cons, List.filterMap_nil, List.getElem?_cons_succ, List.getElem?_cons_zero]
          have O7 := Lib.hid hu7.2.1
          have X7 := Lib.hid hu7.2.2
          have E7 := Lib.hid hu7.1
          have lw7 := Below.size E7.out
          clear hu7
          refine (list_appP rfl (.tmp 25) (.tmp 27) rfl W.heap.size v1 k (l.take k).flatten rfl O7.out (some ⟨xb, 0, none⟩) 1 1 d rfl (fun h => by cases h) (by rw [X7.out.2]) (fun a ha => by injection ha with ha; subst ha; exact cells_of X7.out.bytes) (by omega) lw7 ?_)
          intro v2 u8 o8 g8
          have O8 := Lib.hid o8
          have E8 := Lib.hid (show Ext W u8 from Below.trans E7.out (gr_belowS g8 lw7 (fun q hq => (World.ownsRow.lt O7.out q hq).1)))
          have lw8 := Below.size E8.out
          clear o8 g8 O7 X7
          go_upto_region 5 with fail
          go_wp2_with (at_builtin; refine list_appP rfl (.tmp 29) (.tmp 32) rfl W.heap.size v2 (k + 1) ((l.take k).flatten ++ d) rfl O8.out (some ⟨b, off + k * 32, none⟩) (n - k) (c - k) (l.drop k).flatten rfl (fun h => by cases h) hDL.out (fun a ha => by injection ha with ha; subst ha; exact cells_of (BytesAt.drop' hd.out (Z4.out.below E8.out lt4.out) (by have := hnl.out; omega))) (by omega) lw8 ?_)
          intro v3 u9 o9 g9
          have O9 := Lib.hid o9
          have B9 := Lib.hid (bel_trans B4.out (show Ext W u9 from Below.trans E8.out (gr_belowS g9 lw8 (fun q hq => (World.ownsRow.lt O8.out q hq).1))))
          clear o9 g9
          go_wp2_with fail
          go_ret
          refine ⟨v3, rfl, ?_, B9.out⟩
          have e1 : k + 1 + (n - k) = n + 1 := by omega
          have e2 : (l.take k).flatten ++ (d ++ (l.drop k).flatten) = (putD l d k).flatten := by simp [putD]
          rw [← e1, ← e2]
          exact ownR_base O9.out B4.out.size
    · obtain rfl : k = i := by omega
      obtain rfl : k = n := by omega
      have t1 : ¬ ((k : Int) < k) := by omega
      have hkc : (k : Int) ≤ c := by have := hz.out.2.1; omega
      have hcm : (c : Int) ≤ 9223372036854775807 := by have := hz.out.2.2.1; unfold maxLen at this; omega
      have h0 : ¬ ((k : Int) < 0) := by omega
      go_upto_region 2 with fail
      refine wp_region_any (by kernel_rfl) ?_
      change wpAny _ _ _ _ _ _ _ (World.drew _)
      generalize hWD : World.drew _ = W1
      have B1 := Lib.hid (show Below w.heap.size w W1 by rw [← hWD]; exact HB.out.drew)
      have D1 := Lib.hid (show Dg W1 w.heap.size d by rw [← hWD]; exact DB.out)
      have Z1 := Lib.hid (show BytesAt W1 b off l.flatten by rw [← hWD]; exact hb.out.below HB.out.drew hlt)
      have lt1 := Lib.hid (show b < W1.heap.size from Nat.lt_of_lt_of_le hlt B1.out.size)
      clear hWD
      have hCD : ∀ u, Ext W1 u → Ext W1 u := fun u hu => hu
      refine region_U (D := Ext W1) (Ext W1) [11] (Ext.refl W1) ?_
      refine anyU_takeD (i := 0) (v := .int .i64 (k : Int)) 7 rfl rfl (by kernel_rfl) (by kernel_rfl) (by kernel_rfl) (fun _ _ _ h => h) (by kernel_rfl) (Ext.stable _) hCD (yieldsU_val rfl (fun u hu => by go_simp)) ?_
      refine anyU_takeD (i := 1) (v := .slice (some ⟨b, off, none⟩) k c) 8 rfl rfl (by kernel_rfl) (by kernel_rfl) (by kernel_rfl) (fun _ _ _ h => h) (by kernel_rfl) (Ext.stable _) hCD (yieldsU_val rfl (fun u hu => by go_simp)) ?_
      refine anyU_takeD (i := 2) (v := .int .i64 (k : Int)) 9 rfl rfl (by kernel_rfl) (by kernel_rfl) (by kernel_rfl) (fun _ _ _ h => h) (by kernel_rfl) (Ext.stable _) hCD (yieldsU_val rfl (fun u hu => by go_simp)) ?_
      refine anyU_takeD (i := 3) (v := .bool false) 10 rfl rfl (by kernel_rfl) (by kernel_rfl) (by kernel_rfl) (fun _ _ _ h => h) (by kernel_rfl) (Ext.stable _) hCD (yieldsU_val rfl (fun u hu => by go_simp)) ?_
      refine anyU_takeD (i := 4) (v := .bool false) 11 rfl rfl (by kernel_rfl) (by kernel_rfl) (by kernel_rfl) (fun _ _ _ h => h) (by kernel_rfl) (Ext.stable _) hCD (yieldsU_val rfl (fun u hu => by go_simp)) ?_
      simp only [Act.put, List.setIfInBounds_toArray, List.set_cons_succ, List.set_cons_zero]
      refine anyU_takeD (i := 5) (v := undef) 12 rfl rfl (by kernel_rfl) (by kernel_rfl) (by kernel_rfl) (fun _ _ _ h => h) (by kernel_rfl) (Ext.stable _) hCD (.inr ⟨by rfl, rfl⟩) ?_
      refine anyU_takeD (i := 6) (v := undef) 13 rfl rfl (by kernel_rfl) (by kernel_rfl) (by kernel_rfl) (fun _ _ _ h => h) (by kernel_rfl) (Ext.stable _) hCD (.inr ⟨by rfl, rfl⟩) ?_
      refine anyU_takeD (i := 7) (v := undef) 14 rfl rfl (by kernel_rfl) (by kernel_rfl) (by kernel_rfl) (fun _ _ _ h => h) (by kernel_rfl) (Ext.stable _) hCD (.inr ⟨by rfl, rfl⟩) ?_
      refine anyU_takeD (i := 8) (v := undef) 15 rfl rfl (by kernel_rfl) (by kernel_rfl) (by kernel_rfl) (fun _ _ _ h => h) (by kernel_rfl) (Ext.stable _) hCD (.inr ⟨by rfl, rfl⟩) ?_
      refine anyU_takeD (i := 9) (v := undef) 16 rfl rfl (by kernel_rfl) (by kernel_rfl) (by kernel_rfl) (fun _ _ _ h => h) (by kernel_rfl) (Ext.stable _) hCD (.inr ⟨by rfl, rfl⟩) ?_
      refine anyU_takeD (i := 10) (v := undef) 17 rfl rfl (by kernel_rfl) (by kernel_rfl) (by kernel_rfl) (fun _ _ _ h => h) (by kernel_rfl) (Ext.stable _) hCD (.inr ⟨by rfl, rfl⟩) ?_
      simp only [Act.put, List.setIfInBounds_toArray, List.set_cons_succ, List.set_cons_zero]
      refine anyU_tail 11 [] rfl rfl (by decide) (by kernel_rfl) ?_
      intro u3 hu3
      simp only [Act.put, List.filterMap_cons, List.filterMap_nil, List.getElem?_cons_succ, List.getElem?_cons_zero]
      have B3 := Lib.hid (bel_trans B1.out hu3)
      have D3 := Lib.hid (D1.out.bel hu3)
      have Z3 := Lib.hid (Z1.out.below hu3 lt1.out)
      have lt3 := Lib.hid (show b < u3.heap.size from Nat.lt_of_lt_of_le hlt B3.out.size)
      clear hu3 D1 B1 Z1 lt1
      go_upto_region 4 with fail
      by_cases hck : c = k
      · have hck2 := hck.symm
        clear hck
        subst hck2
        refine wp_region_any (by kernel_rfl) ?_
        change wpAny _ _ _ _ _ _ _ (World.drew _)
        generalize hWD : World.drew _ = W
        have B4 := Lib.hid (show Below w.heap.size w W by rw [← hWD]; exact B3.out.drew)
        have D4 := Lib.hid (show Dg W w.heap.size d by rw [← hWD]; exact D3.out)
        have Z4 := Lib.hid (show BytesAt W b off l.flatten by rw [← hWD]; exact Z3.out)
        have lt4 := Lib.hid (show b < W.heap.size by rw [← hWD]; exact lt3.out)
        clear hWD
        have hCD : ∀ u, Ext W u → Ext W u := fun u hu => hu
        have hTN := Lib.hid (show (some ⟨b, off, none⟩ : Option Addr) = none → k = 0 ∧ k = 0 from fun h => by cases h)
        have hTL := Lib.hid (show (l.take k).flatten.length = 32 * k by rw [flat_len (hd.out.take k), List.length_take]; have := hnl.out; omega)
        have hDL := Lib.hid (show (l.drop k).flatten.length = 32 * 0 by rw [flat_len (hd.out.drop k), List.length_drop]; have := hnl.out; omega)
        have hTC := Lib.hid (show ∀ z, Ext W z → ∀ a, (some ⟨b, off, none⟩ : Option Addr) = some a → ∀ j u, (bv (l.take k).flatten)[j]? = some u → z.cell? (a.add j) = some u from fun z hz a ha => by
          injection ha with ha; subst ha
          exact cells_of (BytesAt.take' hd.out (Z4.out.below hz lt4.out) k))
        refine region_U (D := Ext W) (Ext W) [7, 8] (Ext.refl W) ?_
        refine anyU_takeD (i := 1) (v := .slice (some ⟨b, off, none⟩) k k) 22 rfl rfl (by kernel_rfl) (by kernel_rfl) (by kernel_rfl) (fun _ _ _ h => h) (by kernel_rfl) (Ext.stable _) hCD (yieldsU_val rfl (fun u hu => by go_simp)) ?_
        refine anyU_takeD (i := 2) (v := .int .i64 (k : Int)) 23 rfl rfl (by kernel_rfl) (by kernel_rfl) (by kernel_rfl) (fun _ _ _ h => h) (by kernel_rfl) (Ext.stable _) hCD (yieldsU_val rfl (fun u hu => by go_simp)) ?_
        refine anyU_takeD (i := 3) (v := .slice (some ⟨b, off, none⟩) k k) 24 rfl rfl (by kernel_rfl) (by kernel_rfl) (by kernel_rfl) (fun _ _ _ h => h) (by kernel_rfl) (Ext.stable _) hCD (yieldsU_val rfl (fun u hu => by go_simp)) ?_
        refine anyU_takeD (i := 5) (v := .agg (bv d).toArray) 26 rfl rfl (by kernel_rfl) (by kernel_rfl) (by kernel_rfl) (fun _ _ _ h => h) (by kernel_rfl) (Ext.stable _) hCD (yieldsU_of_C (yields_loadD (by rfl) (.tmp 3) rfl w.heap.size rfl d ld.out (fun u hu => D4.out.bel hu))) ?_
        simp only [Act.put, List.setIfInBounds_toArray, List.set_cons_succ, List.set_cons_zero]
        refine anyU_two 0 6 4 _ _ rfl rfl rfl rfl (by kernel_rfl) ?rA ?rB
        case rA =>
          intro u1 hu
          go_wp2_with fail
          change ∃ C' : World → Prop, _ ∧ _ ∧ _ ∧ anyU _ _ _ _ _ _ 4 _ _ _
          have hE : Ext W u1 := hu
          have lw := Below.size hE
          have O0 := Lib.hid (show OwnR (u1.alloc (.cells #[] 25)) W.heap.size (.slice (some ⟨u1.heap.size, 0, none⟩) 0 0) 0 [] from ownR_base (World.ownsRow_made u1 #[] 0 (Nat.le_refl _) (by unfold maxLen; omega) rfl) lw)
          have E0 := Lib.hid (Ext.trans hE (bel_alloc1 u1 (.cells #[] 25)))
          generalize World.alloc u1 _ = u2 at O0 E0 ⊢
          generalize u1.heap.size = eb at O0 ⊢
          clear hu hE lw
          refine anchorF (fun z => Ext W z ∧ OwnR z W.heap.size (.slice (some ⟨eb, 0, none⟩) 0 0) 0 []) (fun z hz => hz.1) (Stable.and (Ext.stable W) (fun y z h k => ownR_below h k)) ⟨E0.out, O0.out⟩ ?_
          (try simp only [Act.put])
          refine anyU_two 4 6 3 _ _ rfl rfl rfl rfl (by kernel_rfl) ?rA1 ?rA2
          case rA1 =>
            intro u5 hu
            have hE : Ext W u5 := hu.1
            have lw5 := Below.size hE
            refine list_appP rfl (.tmp 21) (.tmp 24) rfl W.heap.size (.slice (some ⟨eb, 0, none⟩) 0 0) 0 [] rfl hu.2 (some ⟨b, off, none⟩) k k (l.take k).flatten rfl hTN.out hTL.out (fun a ha => hTC.out u5 hE a ha) (by omega) lw5 ?_
            intro v1 u6 o1 g1
            change ∃ C' : World → Prop, _ ∧ _ ∧ _ ∧ anyU _ _ _ _ _ _ 3 _ _ _
            have O2 := Lib.hid (show OwnR u6 W.heap.size v1 k (l.take k).flatten by simpa using o1)
            have E2 := Lib.hid (show Ext W u6 from Below.trans hE (gr_belowS g1 lw5 (fun q hq => by cases hq; exact (World.ownsRow.lt hu.2 eb rfl).1)))
            clear hu hE o1 g1
            refine anchorF (fun z => Ext W z ∧ OwnR z W.heap.size v1 k (l.take k).flatten) (fun z hz => hz.1) (Stable.and (Ext.stable W) (fun y z h k => ownR_below h k)) ⟨E2.out, O2.out⟩ ?_
            (try simp only [Act.put])
            refine anyU_one 6 2 _ rfl rfl (by kernel_rfl) ?_
            intro u3 hu
            refine list_build1 (by rfl) (.tmp 26) rfl (bv d) rfl (by rw [bv_len]; exact ld.out) ?_
            change ∃ C' : World → Prop, _ ∧ _ ∧ _ ∧ anyU _ _ _ _ _ _ 2 _ _ _
            have hE : Ext W u3 := hu.1
            have X1 := Lib.hid (Dg.box u3 ld.out)
            have E1 := Lib.hid (Ext.trans hE (bel_alloc1 u3 (.cells (bv d).toArray 25)))
            have O1 := Lib.hid (ownR_below hu.2 (bel_alloc1 u3 (.cells (bv d).toArray 25)))
            generalize World.alloc u3 _ = u4 at X1 E1 O1 ⊢
            generalize u3.heap.size = xb at X1 ⊢
            clear hu hE
            refine anchorF (fun z => Ext W z ∧ OwnR z W.heap.size v1 k (l.take k).flatten ∧ Dg z xb d) (fun z hz => hz.1) (Stable.and (Ext.stable W) (Stable.and (fun y z h k => ownR_below h k) (fun y z h k => Dg.bel h k))) ⟨E1.out, O1.out, X1.out⟩ ?_
            (try simp only [Act.put])
            refine anyU_tail 7 [8] rfl rfl (by decide) (by kernel_rfl) ?_
            intro u7 hu7
            simp only [Act.put, List.filterMap_cons, List.filterMap_nil, List.getElem?_cons_succ, List.getElem?_cons_zero]
            have O7 := Lib.hid hu7.2.1
            have X7 := Lib.hid hu7.2.2
            have E7 := Lib.hid hu7.1
            have lw7 := Below.size E7.out
            clear hu7
            refine (list_appP rfl (.tmp 25) (.tmp 27) rfl W.heap.size v1 k (l.take k).flatten rfl O7.out (some ⟨xb, 0, none⟩) 1 1 d rfl (fun h => by cases h) (by rw [X7.out.2]) (fun a ha => by injection ha with ha; subst ha; exact cells_of X7.out.bytes) (by omega) lw7 ?_)
            intro v2 u8 o8 g8
            have O8 := Lib.hid o8
            have E8 := Lib.hid (show Ext W u8 from Below.trans E7.out (gr_belowS g8 lw7 (fun q hq => (World.ownsRow.lt O7.out q hq).1)))
            have lw8 := Below.size E8.out
            clear o8 g8 O7 X7
            go_upto_region 5 with fail
            go_wp2_with (at_builtin; refine list_appP rfl (.tmp 29) (.tmp 32) rfl W.heap.size v2 (k + 1) ((l.take k).flatten ++ d) rfl O8.out (some ⟨b, off, none⟩) 0 0 (l.drop k).flatten rfl (fun h => by cases h) hDL.out (fun a ha j u hu => by rw [List.drop_of_length_le (by have := hnl.out; omega)] at hu; simp [bv] at hu) (by omega) lw8 ?_)
            intro v3 u9 o9 g9
            have O9 := Lib.hid o9
            have B9 := Lib.hid (bel_trans B4.out (show Ext W u9 from Below.trans E8.out (gr_belowS g9 lw8 (fun q hq => (World.ownsRow.lt O8.out q hq).1))))
            clear o9 g9
            go_wp2_with fail
            go_ret
            refine ⟨v3, rfl, ?_, B9.out⟩
            have e1 : k + 1 + 0 = k + 1 := by omega
            have e2 : (l.take k).flatten ++ (d ++ (l.drop k).flatten) = (putD l d k).flatten := by simp [putD]
            rw [← e1, ← e2]
            exact ownR_base O9.out B4.out.size
          case rA2 =>
            intro u3 hu
            refine list_build1 (by rfl) (.tmp 26) rfl (bv d) rfl (by rw [bv_len]; exact ld.out) ?_
            change ∃ C' : World → Prop, _ ∧ _ ∧ _ ∧ anyU _ _ _ _ _ _ 3 _ _ _
            have hE : Ext W u3 := hu.1
            have X1 := Lib.hid (Dg.box u3 ld.out)
            have E1 := Lib.hid (Ext.trans hE (bel_alloc1 u3 (.cells (bv d).toArray 25)))
            have O1 := Lib.hid (ownR_below hu.2 (bel_alloc1 u3 (.cells (bv d).toArray 25)))
            have ne1 : eb ≠ u3.heap.size := by have := (World.ownsRow.lt hu.2 eb rfl).2; omega
            generalize World.alloc u3 _ = u4 at X1 E1 O1 ⊢
            generalize u3.heap.size = xb at X1 ne1 ⊢
            clear hu hE
            refine anchorF (fun z => Ext W z ∧ OwnR z W.heap.size (.slice (some ⟨eb, 0, none⟩) 0 0) 0 [] ∧ Dg z xb d) (fun z hz => hz.1) (Stable.and (Ext.stable W) (Stable.and (fun y z h k => ownR_below h k) (fun y z h k => Dg.bel h k))) ⟨E1.out, O1.out, X1.out⟩ ?_
            (try simp only [Act.put])
            refine anyU_one 4 2 _ rfl rfl (by kernel_rfl) ?_
            intro u5 hu
            have hE : Ext W u5 := hu.1
            have lw5 := Below.size hE
            refine list_appP rfl (.tmp 21) (.tmp 24) rfl W.heap.size (.slice (some ⟨eb, 0, none⟩) 0 0) 0 [] rfl hu.2.1 (some ⟨b, off, none⟩) k k (l.take k).flatten rfl hTN.out hTL.out (fun a ha => hTC.out u5 hE a ha) (by omega) lw5 ?_
            intro v1 u6 o1 g1
            change ∃ C' : World → Prop, _ ∧ _ ∧ _ ∧ anyU _ _ _ _ _ _ 2 _ _ _
            have O2 := Lib.hid (show OwnR u6 W.heap.size v1 k (l.take k).flatten by simpa using o1)
            have E2 := Lib.hid (show Ext W u6 from Below.trans hE (gr_belowS g1 lw5 (fun q hq => by cases hq; exact (World.ownsRow.lt hu.2.1 eb rfl).1)))
            have X2 := Lib.hid (show Dg u6 xb d from ⟨(g1.block xb hu.2.2.lt (fun e => by injection e with e; exact (Ne.symm ne1) e)).trans hu.2.2.1, hu.2.2.2⟩)
            clear hu hE o1 g1
            refine anchorF (fun z => Ext W z ∧ OwnR z W.heap.size v1 k (l.take k).flatten ∧ Dg z xb d) (fun z hz => hz.1) (Stable.and (Ext.stable W) (Stable.and (fun y z h k => ownR_below h k) (fun y z h k => Dg.bel h k))) ⟨E2.out, O2.out, X2.out⟩ ?_
            (try simp only [Act.put])
            refine anyU_tail 7 [8] rfl rfl (by decide) (by kernel_rfl) ?_
            intro u7 hu7
            simp only [Act.put, List.filterMap_cons, List.filterMap_nil, List.getElem?_cons_succ, List.getElem?_cons_zero]
            have O7 := Lib.hid hu7.2.1
            have X7 := Lib.hid hu7.2.2
            have E7 := Lib.hid hu7.1
            have lw7 := Below.size E7.out
            clear hu7
            refine (list_appP rfl (.tmp 25) (.tmp 27) rfl W.heap.size v1 k (l.take k).flatten rfl O7.out (some ⟨xb, 0, none⟩) 1 1 d rfl (fun h => by cases h) (by rw [X7.out.2]) (fun a ha => by injection ha with ha; subst ha; exact cells_of X7.out.bytes) (by omega) lw7 ?_)
            intro v2 u8 o8 g8
            have O8 := Lib.hid o8
            have E8 := Lib.hid (show Ext W u8 from Below.trans E7.out (gr_belowS g8 lw7 (fun q hq => (World.ownsRow.lt O7.out q hq).1)))
            have lw8 := Below.size E8.out
            clear o8 g8 O7 X7
            go_upto_region 5 with fail
            go_wp2_with (at_builtin; refine list_appP rfl (.tmp 29) (.tmp 32) rfl W.heap.size v2 (k + 1) ((l.take k).flatten ++ d) rfl O8.out (some ⟨b, off, none⟩) 0 0 (l.drop k).flatten rfl (fun h => by cases h) hDL.out (fun a ha j u hu => by rw [List.drop_of_length_le (by have := hnl.out; omega)] at hu; simp [bv] at hu) (by omega) lw8 ?_)
            intro v3 u9 o9 g9
            have O9 := Lib.hid o9
            have B9 := Lib.hid (bel_trans B4.out (show Ext W u9 from Below.trans E8.out (gr_belowS g9 lw8 (fun q hq => (World.ownsRow.lt O8.out q hq).1))))
            clear o9 g9
            go_wp2_with fail
            go_ret
            refine ⟨v3, rfl, ?_, B9.out⟩
            have e1 : k + 1 + 0 = k + 1 := by omega
            have e2 : (l.take k).flatten ++ (d ++ (l.drop k).flatten) = (putD l d k).flatten := by simp [putD]
            rw [← e1, ← e2]
            exact ownR_base O9.out B4.out.size
        case rB =>
          intro u3 hu
          refine list_build1 (by rfl) (.tmp 26) rfl (bv d) rfl (by rw [bv_len]; exact ld.out) ?_
          change ∃ C' : World → Prop, _ ∧ _ ∧ _ ∧ anyU _ _ _ _ _ _ 4 _ _ _
          have hE : Ext W u3 := hu
          have X1 := Lib.hid (Dg.box u3 ld.out)
          have E1 := Lib.hid (Ext.trans hE (bel_alloc1 u3 (.cells (bv d).toArray 25)))
          generalize World.alloc u3 _ = u4 at X1 E1 ⊢
          generalize u3.heap.size = xb at X1 ⊢
          clear hu hE
          refine anchorF (fun z => Ext W z ∧ Dg z xb d) (fun z hz => hz.1) (Stable.and (Ext.stable W) (fun y z h k => Dg.bel h k)) ⟨E1.out, X1.out⟩ ?_
          (try simp only [Act.put])
          refine anyU_one 0 3 _ rfl rfl (by kernel_rfl) ?_
          intro u1 hu
          go_wp2_with fail
          change ∃ C' : World → Prop, _ ∧ _ ∧ _ ∧ anyU _ _ _ _ _ _ 3 _ _ _
          have hE : Ext W u1 := hu.1
          have lw := Below.size hE
          have O0 := Lib.hid (show OwnR (u1.alloc (.cells #[] 25)) W.heap.size (.slice (some ⟨u1.heap.size, 0, none⟩) 0 0) 0 [] from ownR_base (World.ownsRow_made u1 #[] 0 (Nat.le_refl _) (by unfold maxLen; omega) rfl) lw)
          have E0 := Lib.hid (Ext.trans hE (bel_alloc1 u1 (.cells #[] 25)))
          have X0 := Lib.hid (hu.2.alloc (.cells #[] 25))
          have ne0 : xb ≠ u1.heap.size := by have := hu.2.lt; omega
          generalize World.alloc u1 _ = u2 at O0 E0 X0 ⊢
          generalize u1.heap.size = eb at O0 ne0 ⊢
          clear hu hE lw
          refine anchorF (fun z => Ext W z ∧ OwnR z W.heap.size (.slice (some ⟨eb, 0, none⟩) 0 0) 0 [] ∧ Dg z xb d) (fun z hz => hz.1) (Stable.and (Ext.stable W) (Stable.and (fun y z h k => ownR_below h k) (fun y z h k => Dg.bel h k))) ⟨E0.out, O0.out, X0.out⟩ ?_
          (try simp only [Act.put])
          refine anyU_one 4 2 _ rfl rfl (by kernel_rfl) ?_
          intro u5 hu
          have hE : Ext W u5 := hu.1
          have lw5 := Below.size hE
          refine list_appP rfl (.tmp 21) (.tmp 24) rfl W.heap.size (.slice (some ⟨eb, 0, none⟩) 0 0) 0 [] rfl hu.2.1 (some ⟨b, off, none⟩) k k (l.take k).flatten rfl hTN.out hTL.out (fun a ha => hTC.out u5 hE a ha) (by omega) lw5 ?_
          intro v1 u6 o1 g1
          change ∃ C' : World → Prop, _ ∧ _ ∧ _ ∧ anyU _ _ _ _ _ _ 2 _ _ _
          have O2 := Lib.hid (show OwnR u6 W.heap.size v1 k (l.take k).flatten by simpa using o1)
          have E2 := Lib.hid (show Ext W u6 from Below.trans hE (gr_belowS g1 lw5 (fun q hq => by cases hq; exact (World.ownsRow.lt hu.2.1 eb rfl).1)))
          have X2 := Lib.hid (show Dg u6 xb d from ⟨(g1.block xb hu.2.2.lt (fun e => by injection e with e; exact ne0 e)).trans hu.2.2.1, hu.2.2.2⟩)
          clear hu hE o1 g1
          refine anchorF (fun z => Ext W z ∧ OwnR z W.heap.size v1 k (l.take k).flatten ∧ Dg z xb d) (fun z hz => hz.1) (Stable.and (Ext.stable W) (Stable.and (fun y z h k => ownR_below h k) (fun y z h k => Dg.bel h k))) ⟨E2.out, O2.out, X2.out⟩ ?_
          (try simp only [Act.put])
          refine anyU_tail 7 [8] rfl rfl (by decide) (by kernel_rfl) ?_
          intro u7 hu7
          simp only [Act.put, List.filterMap_cons, List.filterMap_nil, List.getElem?_cons_succ, List.getElem?_cons_zero]
          have O7 := Lib.hid hu7.2.1
          have X7 := Lib.hid hu7.2.2
          have E7 := Lib.hid hu7.1
          have lw7 := Below.size E7.out
          clear hu7
          refine (list_appP rfl (.tmp 25) (.tmp 27) rfl W.heap.size v1 k (l.take k).flatten rfl O7.out (some ⟨xb, 0, none⟩) 1 1 d rfl (fun h => by cases h) (by rw [X7.out.2]) (fun a ha => by injection ha with ha; subst ha; exact cells_of X7.out.bytes) (by omega) lw7 ?_)
          intro v2 u8 o8 g8
          have O8 := Lib.hid o8
          have E8 := Lib.hid (show Ext W u8 from Below.trans E7.out (gr_belowS g8 lw7 (fun q hq => (World.ownsRow.lt O7.out q hq).1)))
          have lw8 := Below.size E8.out
          clear o8 g8 O7 X7
          go_upto_region 5 with fail
          go_wp2_with (at_builtin; refine list_appP rfl (.tmp 29) (.tmp 32) rfl W.heap.size v2 (k + 1) ((l.take k).flatten ++ d) rfl O8.out (some ⟨b, off, none⟩) 0 0 (l.drop k).flatten rfl (fun h => by cases h) hDL.out (fun a ha j u hu => by rw [List.drop_of_length_le (by have := hnl.out; omega)] at hu; simp [bv] at hu) (by omega) lw8 ?_)
          intro v3 u9 o9 g9
          have O9 := Lib.hid o9
          have B9 := Lib.hid (bel_trans B4.out (show Ext W u9 from Below.trans E8.out (gr_belowS g9 lw8 (fun q hq => (World.ownsRow.lt O8.out q hq).1))))
          clear o9 g9
          go_wp2_with fail
          go_ret
          refine ⟨v3, rfl, ?_, B9.out⟩
          have e1 : k + 1 + 0 = k + 1 := by omega
          have e2 : (l.take k).flatten ++ (d ++ (l.drop k).flatten) = (putD l d k).flatten := by simp [putD]
          rw [← e1, ← e2]
          exact ownR_base O9.out B4.out.size
      · skip
        refine wp_region_any (by kernel_rfl) ?_
        change wpAny _ _ _ _ _ _ _ (World.drew _)
        generalize hWD : World.drew _ = W
        have B4 := Lib.hid (show Below w.heap.size w W by rw [← hWD]; exact B3.out.drew)
        have D4 := Lib.hid (show Dg W w.heap.size d by rw [← hWD]; exact D3.out)
        have Z4 := Lib.hid (show BytesAt W b off l.flatten by rw [← hWD]; exact Z3.out)
        have lt4 := Lib.hid (show b < W.heap.size by rw [← hWD]; exact lt3.out)
        clear hWD
        have hCD : ∀ u, Ext W u → Ext W u := fun u hu => hu
        have hTN := Lib.hid (show (some ⟨b, off, none⟩ : Option Addr) = none → k = 0 ∧ c = 0 from fun h => by cases h)
        have hTL := Lib.hid (show (l.take k).flatten.length = 32 * k by rw [flat_len (hd.out.take k), List.length_take]; have := hnl.out; omega)
        have hDL := Lib.hid (show (l.drop k).flatten.length = 32 * 0 by rw [flat_len (hd.out.drop k), List.length_drop]; have := hnl.out; omega)
        have hTC := Lib.hid (show ∀ z, Ext W z → ∀ a, (some ⟨b, off, none⟩ : Option Addr) = some a → ∀ j u, (bv (l.take k).flatten)[j]? = some u → z.cell? (a.add j) = some u from fun z hz a ha => by
          injection ha with ha; subst ha
          exact cells_of (BytesAt.take' hd.out (Z4.out.below hz lt4.out) k))
        refine region_U (D := Ext W) (Ext W) [7, 8] (Ext.refl W) ?_
        refine anyU_takeD (i := 1) (v := .slice (some ⟨b, off, none⟩) k c) 22 rfl rfl (by kernel_rfl) (by kernel_rfl) (by kernel_rfl) (fun _ _ _ h => h) (by kernel_rfl) (Ext.stable _) hCD (yieldsU_val rfl (fun u hu => by go_simp)) ?_
        refine anyU_takeD (i := 2) (v := .int .i64 (k : Int)) 23 rfl rfl (by kernel_rfl) (by kernel_rfl) (by kernel_rfl) (fun _ _ _ h => h) (by kernel_rfl) (Ext.stable _) hCD (yieldsU_val rfl (fun u hu => by go_simp)) ?_
        refine anyU_takeD (i := 3) (v := .slice (some ⟨b, off, none⟩) k c) 24 rfl rfl (by kernel_rfl) (by kernel_rfl) (by kernel_rfl) (fun _ _ _ h => h) (by kernel_rfl) (Ext.stable _) hCD (yieldsU_val rfl (fun u hu => by go_simp)) ?_
        refine anyU_takeD (i := 5) (v := .agg (bv d).toArray) 26 rfl rfl (by kernel_rfl) (by kernel_rfl) (by kernel_rfl) (fun _ _ _ h => h) (by kernel_rfl) (Ext.stable _) hCD (yieldsU_of_C (yields_loadD (by rfl) (.tmp 3) rfl w.heap.size rfl d ld.out (fun u hu => D4.out.bel hu))) ?_
        simp only [Act.put, List.setIfInBounds_toArray, List.set_cons_succ, List.set_cons_zero]
        refine anyU_two 0 6 4 _ _ rfl rfl rfl rfl (by kernel_rfl) ?rA ?rB
        case rA =>
          intro u1 hu
          go_wp2_with fail
          change ∃ C' : World → Prop, _ ∧ _ ∧ _ ∧ anyU _ _ _ _ _ _ 4 _ _ _
          have hE : Ext W u1 := hu
          have lw := Below.size hE
          have O0 := Lib.hid (show OwnR (u1.alloc (.cells #[] 25)) W.heap.size (.slice (some ⟨u1.heap.size, 0, none⟩) 0 0) 0 [] from ownR_base (World.ownsRow_made u1 #[] 0 (Nat.le_refl _) (by unfold maxLen; omega) rfl) lw)
          have E0 := Lib.hid (Ext.trans hE (bel_alloc1 u1 (.cells #[] 25)))
          generalize World.alloc u1 _ = u2 at O0 E0 ⊢
          generalize u1.heap.size = eb at O0 ⊢
          clear hu hE lw
          refine anchorF (fun z => Ext W z ∧ OwnR z W.heap.size (.slice (some ⟨eb, 0, none⟩) 0 0) 0 []) (fun z hz => hz.1) (Stable.and (Ext.stable W) (fun y z h k => ownR_below h k)) ⟨E0.out, O0.out⟩ ?_
          (try simp only [Act.put])
          refine anyU_two 4 6 3 _ _ rfl rfl rfl rfl (by kernel_rfl) ?rA1 ?rA2
          case rA1 =>
            intro u5 hu
            have hE : Ext W u5 := hu.1
            have lw5 := Below.size hE
            refine list_appP rfl (.tmp 21) (.tmp 24) rfl W.heap.size (.slice (some ⟨eb, 0, none⟩) 0 0) 0 [] rfl hu.2 (some ⟨b, off, none⟩) k c (l.take k).flatten rfl hTN.out hTL.out (fun a ha => hTC.out u5 hE a ha) (by omega) lw5 ?_
            intro v1 u6 o1 g1
            change ∃ C' : World → Prop, _ ∧ _ ∧ _ ∧ anyU _ _ _ _ _ _ 3 _ _ _
            have O2 := Lib.hid (show OwnR u6 W.heap.size v1 k (l.take k).flatten by simpa using o1)
            have E2 := Lib.hid (show Ext W u6 from Below.trans hE (gr_belowS g1 lw5 (fun q hq => by cases hq; exact (World.ownsRow.lt hu.2 eb rfl).1)))
            clear hu hE o1 g1
            refine anchorF (fun z => Ext W z ∧ OwnR z W.heap.size v1 k (l.take k).flatten) (fun z hz => hz.1) (Stable.and (Ext.stable W) (fun y z h k => ownR_below h k)) ⟨E2.out, O2.out⟩ ?_
            (try simp only [Act.put])
            refine anyU_one 6 2 _ rfl rfl (by kernel_rfl) ?_
            intro u3 hu
            refine list_build1 (by rfl) (.tmp 26) rfl (bv d) rfl (by rw [bv_len]; exact ld.out) ?_
            change ∃ C' : World → Prop, _ ∧ _ ∧ _ ∧ anyU _ _ _ _ _ _ 2 _ _ _
            have hE : Ext W u3 := hu.1
            have X1 := Lib.hid (Dg.box u3 ld.out)
            have E1 := Lib.hid (Ext.trans hE (bel_alloc1 u3 (.cells (bv d).toArray 25)))
            have O1 := Lib.hid (ownR_below hu.2 (bel_alloc1 u3 (.cells (bv d).toArray 25)))
            generalize World.alloc u3 _ = u4 at X1 E1 O1 ⊢
            generalize u3.heap.size = xb at X1 ⊢
            clear hu hE
            refine anchorF (fun z => Ext W z ∧ OwnR z W.heap.size v1 k (l.take k).flatten ∧ Dg z xb d) (fun z hz => hz.1) (Stable.and (Ext.stable W) (Stable.and (fun y z h k => ownR_below h k) (fun y z h k => Dg.bel h k))) ⟨E1.out, O1.out, X1.out⟩ ?_
            (try simp only [Act.put])
            refine anyU_tail 7 [8] rfl rfl (by decide) (by kernel_rfl) ?_
            intro u7 hu7
            simp only [Act.put, List.filterMap_cons, List.filterMap_nil, List.getElem?_cons_succ, List.getElem?_cons_zero]
            have O7 := Lib.hid hu7.2.1
            have X7 := Lib.hid hu7.2.2
            have E7 := Lib.hid hu7.1
            have lw7 := Below.size E7.out
            clear hu7
            refine (list_appP rfl (.tmp 25) (.tmp 27) rfl W.heap.size v1 k (l.take k).flatten rfl O7.out (some ⟨xb, 0, none⟩) 1 1 d rfl (fun h => by cases h) (by rw [X7.out.2]) (fun a ha => by injection ha with ha; subst ha; exact cells_of X7.out.bytes) (by omega) lw7 ?_)
            intro v2 u8 o8 g8
            have O8 := Lib.hid o8
            have E8 := Lib.hid (show Ext W u8 from Below.trans E7.out (gr_belowS g8 lw7 (fun q hq => (World.ownsRow.lt O7.out q hq).1)))
            have lw8 := Below.size E8.out
            clear o8 g8 O7 X7
            go_upto_region 5 with fail
            go_wp2_with (at_builtin; refine list_appP rfl (.tmp 29) (.tmp 32) rfl W.heap.size v2 (k + 1) ((l.take k).flatten ++ d) rfl O8.out (some ⟨b, off + k * 32, none⟩) 0 (c - k) (l.drop k).flatten rfl (fun h => by cases h) hDL.out (fun a ha j u hu => by rw [List.drop_of_length_le (by have := hnl.out; omega)] at hu; simp [bv] at hu) (by omega) lw8 ?_)
            intro v3 u9 o9 g9
            have O9 := Lib.hid o9
            have B9 := Lib.hid (bel_trans B4.out (show Ext W u9 from Below.trans E8.out (gr_belowS g9 lw8 (fun q hq => (World.ownsRow.lt O8.out q hq).1))))
            clear o9 g9
            go_wp2_with fail
            go_ret
            refine ⟨v3, rfl, ?_, B9.out⟩
            have e1 : k + 1 + 0 = k + 1 := by omega
            have e2 : (l.take k).flatten ++ (d ++ (l.drop k).flatten) = (putD l d k).flatten := by simp [putD]
            rw [← e1, ← e2]
            exact ownR_base O9.out B4.out.size
          case rA2 =>
            intro u3 hu
            refine list_build1 (by rfl) (.tmp 26) rfl (bv d) rfl (by rw [bv_len]; exact ld.out) ?_
            change ∃ C' : World → Prop, _ ∧ _ ∧ _ ∧ anyU _ _ _ _ _ _ 3 _ _ _
            have hE : Ext W u3 := hu.1
            have X1 := Lib.hid (Dg.box u3 ld.out)
            have E1 := Lib.hid (Ext.trans hE (bel_alloc1 u3 (.cells (bv d).toArray 25)))
            have O1 := Lib.hid (ownR_below hu.2 (bel_alloc1 u3 (.cells (bv d).toArray 25)))
            have ne1 : eb ≠ u3.heap.size := by have := (World.ownsRow.lt hu.2 eb rfl).2; omega
            generalize World.alloc u3 _ = u4 at X1 E1 O1 ⊢
            generalize u3.heap.size = xb at X1 ne1 ⊢
            clear hu hE
            refine anchorF (fun z => Ext W z ∧ OwnR z W.heap.size (.slice (some ⟨eb, 0, none⟩) 0 0) 0 [] ∧ Dg z xb d) (fun z hz => hz.1) (Stable.and (Ext.stable W) (Stable.and (fun y z h k => ownR_below h k) (fun y z h k => Dg.bel h k))) ⟨E1.out, O1.out, X1.out⟩ ?_
            (try simp only [Act.put])
            refine anyU_one 4 2 _ rfl rfl (by kernel_rfl) ?_
            intro u5 hu
            have hE : Ext W u5 := hu.1
            have lw5 := Below.size hE
            refine list_appP rfl (.tmp 21) (.tmp 24) rfl W.heap.size (.slice (some ⟨eb, 0, none⟩) 0 0) 0 [] rfl hu.2.1 (some ⟨b, off, none⟩) k c (l.take k).flatten rfl hTN.out hTL.out (fun a ha => hTC.out u5 hE a ha) (by omega) lw5 ?_
            intro v1 u6 o1 g1
            change ∃ C' : World → Prop, _ ∧ _ ∧ _ ∧ anyU _ _ _ _ _ _ 2 _ _ _
            have O2 := Lib.hid (show OwnR u6 W.heap.size v1 k (l.take k).flatten by simpa using o1)
            have E2 := Lib.hid (show Ext W u6 from Below.trans hE (gr_belowS g1 lw5 (fun q hq => by cases hq; exact (World.ownsRow.lt hu.2.1 eb rfl).1)))
            have X2 := Lib.hid (show Dg u6 xb d from ⟨(g1.block xb hu.2.2.lt (fun e => by injection e with e; exact (Ne.symm ne1) e)).trans hu.2.2.1, hu.2.2.2⟩)
            clear hu hE o1 g1
            refine anchorF (fun z => Ext W z ∧ OwnR z W.heap.size v1 k (l.take k).flatten ∧ Dg z xb d) (fun z hz => hz.1) (Stable.and (Ext.stable W) (Stable.and (fun y z h k => ownR_below h k) (fun y z h k => Dg.bel h k))) ⟨E2.out, O2.out, X2.out⟩ ?_
            (try simp only [Act.put])
            refine anyU_tail 7 [8] rfl rfl (by decide) (by kernel_rfl) ?_
            intro u7 hu7
            simp only [Act.put, List.filterMap_cons, List.filterMap_nil, List.getElem?_cons_succ, List.getElem?_cons_zero]
            have O7 := Lib.hid hu7.2.1
            have X7 := Lib.hid hu7.2.2
            have E7 := Lib.hid hu7.1
            have lw7 := Below.size E7.out
            clear hu7
            refine (list_appP rfl (.tmp 25) (.tmp 27) rfl W.heap.size v1 k (l.take k).flatten rfl O7.out (some ⟨xb, 0, none⟩) 1 1 d rfl (fun h => by cases h) (by rw [X7.out.2]) (fun a ha => by injection ha with ha; subst ha; exact cells_of X7.out.bytes) (by omega) lw7 ?_)
            intro v2 u8 o8 g8
            have O8 := Lib.hid o8
            have E8 := Lib.hid (show Ext W u8 from Below.trans E7.out (gr_belowS g8 lw7 (fun q hq => (World.ownsRow.lt O7.out q hq).1)))
            have lw8 := Below.size E8.out
            clear o8 g8 O7 X7
            go_upto_region 5 with fail
            go_wp2_with (at_builtin; refine list_appP rfl (.tmp 29) (.tmp 32) rfl W.heap.size v2 (k + 1) ((l.take k).flatten ++ d) rfl O8.out (some ⟨b, off + k * 32, none⟩) 0 (c - k) (l.drop k).flatten rfl (fun h => by cases h) hDL.out (fun a ha j u hu => by rw [List.drop_of_length_le (by have := hnl.out; omega)] at hu; simp [bv] at hu) (by omega) lw8 ?_)
            intro v3 u9 o9 g9
            have O9 := Lib.hid o9
            have B9 := Lib.hid (bel_trans B4.out (show Ext W u9 from Below.trans E8.out (gr_belowS g9 lw8 (fun q hq => (World.ownsRow.lt O8.out q hq).1))))
            clear o9 g9
            go_wp2_with fail
            go_ret
            refine ⟨v3, rfl, ?_, B9.out⟩
            have e1 : k + 1 + 0 = k + 1 := by omega
            have e2 : (l.take k).flatten ++ (d ++ (l.drop k).flatten) = (putD l d k).flatten := by simp [putD]
            rw [← e1, ← e2]
            exact ownR_base O9.out B4.out.size
        case rB =>
          intro u3 hu
          refine list_build1 (by rfl) (.tmp 26) rfl (bv d) rfl (by rw [bv_len]; exact ld.out) ?_
          change ∃ C' : World → Prop, _ ∧ _ ∧ _ ∧ anyU _ _ _ _ _ _ 4 _ _ _
          have hE : Ext W u3 := hu
          have X1 := Lib.hid (Dg.box u3 ld.out)
          have E1 := Lib.hid (Ext.trans hE (bel_alloc1 u3 (.cells (bv d).toArray 25)))
          generalize World.alloc u3 _ = u4 at X1 E1 ⊢
          generalize u3.heap.size = xb at X1 ⊢
          clear hu hE
          refine anchorF (fun z => Ext W z ∧ Dg z xb d) (fun z hz => hz.1) (Stable.and (Ext.stable W) (fun y z h k => Dg.bel h k)) ⟨E1.out, X1.out⟩ ?_
          (try simp only [Act.put])
          refine anyU_one 0 3 _ rfl rfl (by kernel_rfl) ?_
          intro u1 hu
          go_wp2_with fail
          change ∃ C' : World → Prop, _ ∧ _ ∧ _ ∧ anyU _ _ _ _ _ _ 3 _ _ _
          have hE : Ext W u1 := hu.1
          have lw := Below.size hE
          have O0 := Lib.hid (show OwnR (u1.alloc (.cells #[] 25)) W.heap.size (.slice (some ⟨u1.heap.size, 0, none⟩) 0 0) 0 [] from ownR_base (World.ownsRow_made u1 #[] 0 (Nat.le_refl _) (by unfold maxLen; omega) rfl) lw)
          have E0 := Lib.hid (Ext.trans hE (bel_alloc1 u1 (.cells #[] 25)))
          have X0 := Lib.hid (hu.2.alloc (.cells #[] 25))
          have ne0 : xb ≠ u1.heap.size := by have := hu.2.lt; omega
          generalize World.alloc u1 _ = u2 at O0 E0 X0 ⊢
          generalize u1.heap.size = eb at O0 ne0 ⊢
          clear hu hE lw
          refine anchorF (fun z => Ext W z ∧ OwnR z W.heap.size (.slice (some ⟨eb, 0, none⟩) 0 0) 0 [] ∧ Dg z xb d) (fun z hz => hz.1) (Stable.and (Ext.stable W) (Stable.and (fun y z h k => ownR_below h k) (fun y z h k => Dg.bel h k))) ⟨E0.out, O0.out, X0.out⟩ ?_
          (try simp only [Act.put])
          refine anyU_one 4 2 _ rfl rfl (by kernel_rfl) ?_
          intro u5 hu
          have hE : Ext W u5 := hu.1
          have lw5 := Below.size hE
          refine list_appP rfl (.tmp 21) (.tmp 24) rfl W.heap.size (.slice (some ⟨eb, 0, none⟩) 0 0) 0 [] rfl hu.2.1 (some ⟨b, off, none⟩) k c (l.take k).flatten rfl hTN.out hTL.out (fun a ha => hTC.out u5 hE a ha) (by omega) lw5 ?_
          intro v1 u6 o1 g1
          change ∃ C' : World → Prop, _ ∧ _ ∧ _ ∧ anyU _ _ _ _ _ _ 2 _ _ _
          have O2 := Lib.hid (show OwnR u6 W.heap.size v1 k (l.take k).flatten by simpa using o1)
          have E2 := Lib.hid (show Ext W u6 from Below.trans hE (gr_belowS g1 lw5 (fun q hq => by cases hq; exact (World.ownsRow.lt hu.2.1 eb rfl).1)))
          have X2 := Lib.hid (show Dg u6 xb d from ⟨(g1.block xb hu.2.2.lt (fun e => by injection e with e; exact ne0 e)).trans hu.2.2.1, hu.2.2.2⟩)
          clear hu hE o1 g1
          refine anchorF (fun z => Ext W z ∧ OwnR z W.heap.size v1 k (l.take k).flatten ∧ Dg z xb d) (fun z hz => hz.1) (Stable.and (Ext.stable W) (Stable.and (fun y z h k => ownR_below h k) (fun y z h k => Dg.bel h k))) ⟨E2.out, O2.out, X2.out⟩ ?_
          (try simp only [Act.put])
          refine anyU_tail 7 [8] rfl rfl (by decide) (by kernel_rfl) ?_
          intro u7 hu7
          simp only [Act.put, List.filterMap_cons, List.filterMap_nil, List.getElem?_cons_succ, List.getElem?_cons_zero]
          have O7 := Lib.hid hu7.2.1
          have X7 := Lib.hid hu7.2.2
          have E7 := Lib.hid hu7.1
          have lw7 := Below.size E7.out
          clear hu7
          refine (list_appP rfl (.tmp 25) (.tmp 27) rfl W.heap.size v1 k (l.take k).flatten rfl O7.out (some ⟨xb, 0, none⟩) 1 1 d rfl (fun h => by cases h) (by rw [X7.out.2]) (fun a ha => by injection ha with ha; subst ha; exact cells_of X7.out.bytes) (by omega) lw7 ?_)
          intro v2 u8 o8 g8
          have O8 := Lib.hid o8
          have E8 := Lib.hid (show Ext W u8 from Below.trans E7.out (gr_belowS g8 lw7 (fun q hq => (World.ownsRow.lt O7.out q hq).1)))
          have lw8 := Below.size E8.out
          clear o8 g8 O7 X7
          go_upto_region 5 with fail
          go_wp2_with (at_builtin; refine list_appP rfl (.tmp 29) (.tmp 32) rfl W.heap.size v2 (k + 1) ((l.take k).flatten ++ d) rfl O8.out (some ⟨b, off + k * 32, none⟩) 0 (c - k) (l.drop k).flatten rfl (fun h => by cases h) hDL.out (fun a ha j u hu => by rw [List.drop_of_length_le (by have := hnl.out; omega)] at hu; simp [bv] at hu) (by omega) lw8 ?_)
          intro v3 u9 o9 g9
          have O9 := Lib.hid o9
          have B9 := Lib.hid (bel_trans B4.out (show Ext W u9 from Below.trans E8.out (gr_belowS g9 lw8 (fun q hq => (World.ownsRow.lt O8.out q hq).1))))
          clear o9 g9
          go_wp2_with fail
          go_ret
          refine ⟨v3, rfl, ?_, B9.out⟩
          have e1 : k + 1 + 0 = k + 1 := by omega
          have e2 : (l.take k).flatten ++ (d ++ (l.drop k).flatten) = (putD l d k).flatten := by simp [putD]
          rw [← e1, ← e2]
          exact ownR_base O9.out B4.out.size
set_option maxRecDepth 100000 in
set_option maxHeartbeats 4000000 in
theorem rput_nil  (d : List Int) (w : World) (ld : Hid (d.length = 32)) :
    Calls Tryz.prog 34 #[.slice none 0 0, .agg (bv d).toArray] w fun e w' => ∃ v', e = .returned v' ∧ OwnR w' w.heap.size v' 1 d ∧ Below w.heap.size w w' := by
  have D0 := Lib.hid (Dg.box w ld.out)
  have B0 := Lib.hid (bel_alloc1 w (.cells (bv d).toArray 25))
  go_enter Tryz.func34, Tryz.ntmps34
  go_upto_region 2 with fail
  go_loopw [5] (fun y wr => y = .int .i64 0 ∧ Hid (Below w.heap.size w wr) ∧ Hid (Dg wr w.heap.size d)) (fun _ _ => 0)
  case atStart => exact ⟨rfl, B0, D0⟩
  case round =>
    clear B0 D0
    obtain ⟨rfl, HB, DB⟩ := hrel
    go_upto_region 2 with fail
    refine wp_region_any (by kernel_rfl) ?_
    change wpAny _ _ _ _ _ _ _ (World.drew _)
    generalize hWD : World.drew _ = W1
    have B1 := Lib.hid (show Below w.heap.size w W1 by rw [← hWD]; exact HB.out.drew)
    have D1 := Lib.hid (show Dg W1 w.heap.size d by rw [← hWD]; exact DB.out)
    clear hWD
    have hCD : ∀ u, Ext W1 u → Ext W1 u := fun u hu => hu
    refine region_U (D := Ext W1) (Ext W1) [11] (Ext.refl W1) ?_
    refine anyU_takeD (i := 0) (v := .int .i64 0) 7 rfl rfl (by kernel_rfl) (by kernel_rfl) (by kernel_rfl) (fun _ _ _ h => h) (by kernel_rfl) (Ext.stable _) hCD (yieldsU_val rfl (fun u hu => by go_simp)) ?_
    refine anyU_takeD (i := 1) (v := .slice none 0 0) 8 rfl rfl (by kernel_rfl) (by kernel_rfl) (by kernel_rfl) (fun _ _ _ h => h) (by kernel_rfl) (Ext.stable _) hCD (yieldsU_val rfl (fun u hu => by go_simp)) ?_
    refine anyU_takeD (i := 2) (v := .int .i64 0) 9 rfl rfl (by kernel_rfl) (by kernel_rfl) (by kernel_rfl) (fun _ _ _ h => h) (by kernel_rfl) (Ext.stable _) hCD (yieldsU_val rfl (fun u hu => by go_simp)) ?_
    refine anyU_takeD (i := 3) (v := .bool false) 10 rfl rfl (by kernel_rfl) (by kernel_rfl) (by kernel_rfl) (fun _ _ _ h => h) (by kernel_rfl) (Ext.stable _) hCD (yieldsU_val rfl (fun u hu => by go_simp)) ?_
    refine anyU_takeD (i := 4) (v := .bool false) 11 rfl rfl (by kernel_rfl) (by kernel_rfl) (by kernel_rfl) (fun _ _ _ h => h) (by kernel_rfl) (Ext.stable _) hCD (yieldsU_val rfl (fun u hu => by go_simp)) ?_
    simp only [Act.put, List.setIfInBounds_toArray, List.set_cons_succ, List.set_cons_zero]
    refine anyU_takeD (i := 5) (v := undef) 12 rfl rfl (by kernel_rfl) (by kernel_rfl) (by kernel_rfl) (fun _ _ _ h => h) (by kernel_rfl) (Ext.stable _) hCD (.inr ⟨by rfl, rfl⟩) ?_
    refine anyU_takeD (i := 6) (v := undef) 13 rfl rfl (by kernel_rfl) (by kernel_rfl) (by kernel_rfl) (fun _ _ _ h => h) (by kernel_rfl) (Ext.stable _) hCD (.inr ⟨by rfl, rfl⟩) ?_
    refine anyU_takeD (i := 7) (v := undef) 14 rfl rfl (by kernel_rfl) (by kernel_rfl) (by kernel_rfl) (fun _ _ _ h => h) (by kernel_rfl) (Ext.stable _) hCD (.inr ⟨by rfl, rfl⟩) ?_
    refine anyU_takeD (i := 8) (v := undef) 15 rfl rfl (by kernel_rfl) (by kernel_rfl) (by kernel_rfl) (fun _ _ _ h => h) (by kernel_rfl) (Ext.stable _) hCD (.inr ⟨by rfl, rfl⟩) ?_
    refine anyU_takeD (i := 9) (v := undef) 16 rfl rfl (by kernel_rfl) (by kernel_rfl) (by kernel_rfl) (fun _ _ _ h => h) (by kernel_rfl) (Ext.stable _) hCD (.inr ⟨by rfl, rfl⟩) ?_
    refine anyU_takeD (i := 10) (v := undef) 17 rfl rfl (by kernel_rfl) (by kernel_rfl) (by kernel_rfl) (fun _ _ _ h => h) (by kernel_rfl) (Ext.stable _) hCD (.inr ⟨by rfl, rfl⟩) ?_
    simp only [Act.put, List.setIfInBounds_toArray, List.set_cons_succ, List.set_cons_zero]
    refine anyU_tail 11 [] rfl rfl (by decide) (by kernel_rfl) ?_
    intro u3 hu3
    simp only [Act.put, List.filterMap_cons, List.filterMap_nil, List.getElem?_cons_succ, List.getElem?_cons_zero]
    have B3 := Lib.hid (bel_trans B1.out hu3)
    have D3 := Lib.hid (D1.out.bel hu3)
    clear hu3 D1 B1
    go_upto_region 4 with fail
    refine wp_region_any (by kernel_rfl) ?_
    change wpAny _ _ _ _ _ _ _ (World.drew _)
    generalize hWD : World.drew _ = W
    have B4 := Lib.hid (show Below w.heap.size w W by rw [← hWD]; exact B3.out.drew)
    have D4 := Lib.hid (show Dg W w.heap.size d by rw [← hWD]; exact D3.out)
    have Z4 := Lib.hid True.intro
    clear hWD
    have hCD : ∀ u, Ext W u → Ext W u := fun u hu => hu
    refine region_U (D := Ext W) (Ext W) [7, 8] (Ext.refl W) ?_
    refine anyU_takeD (i := 1) (v := .slice none 0 0) 22 rfl rfl (by kernel_rfl) (by kernel_rfl) (by kernel_rfl) (fun _ _ _ h => h) (by kernel_rfl) (Ext.stable _) hCD (yieldsU_val rfl (fun u hu => by go_simp)) ?_
    refine anyU_takeD (i := 2) (v := .int .i64 0) 23 rfl rfl (by kernel_rfl) (by kernel_rfl) (by kernel_rfl) (fun _ _ _ h => h) (by kernel_rfl) (Ext.stable _) hCD (yieldsU_val rfl (fun u hu => by go_simp)) ?_
    refine anyU_takeD (i := 3) (v := .slice none 0 0) 24 rfl rfl (by kernel_rfl) (by kernel_rfl) (by kernel_rfl) (fun _ _ _ h => h) (by kernel_rfl) (Ext.stable _) hCD (yieldsU_val rfl (fun u hu => by go_simp)) ?_
    refine anyU_takeD (i := 5) (v := .agg (bv d).toArray) 26 rfl rfl (by kernel_rfl) (by kernel_rfl) (by kernel_rfl) (fun _ _ _ h => h) (by kernel_rfl) (Ext.stable _) hCD (yieldsU_of_C (yields_loadD (by rfl) (.tmp 3) rfl w.heap.size rfl d ld.out (fun u hu => D4.out.bel hu))) ?_
    simp only [Act.put, List.setIfInBounds_toArray, List.set_cons_succ, List.set_cons_zero]
    refine anyU_two 0 6 4 _ _ rfl rfl rfl rfl (by kernel_rfl) ?rA ?rB
    case rA =>
      intro u1 hu
      go_wp2_with fail
      change ∃ C' : World → Prop, _ ∧ _ ∧ _ ∧ anyU _ _ _ _ _ _ 4 _ _ _
      have hE : Ext W u1 := hu
      have lw := Below.size hE
      have O0 := Lib.hid (show OwnR (u1.alloc (.cells #[] 25)) W.heap.size (.slice (some ⟨u1.heap.size, 0, none⟩) 0 0) 0 [] from ownR_base (World.ownsRow_made u1 #[] 0 (Nat.le_refl _) (by unfold maxLen; omega) rfl) lw)
      have E0 := Lib.hid (Ext.trans hE (bel_alloc1 u1 (.cells #[] 25)))
      generalize World.alloc u1 _ = u2 at O0 E0 ⊢
      generalize u1.heap.size = eb at O0 ⊢
      clear hu hE lw
      refine anchorF (fun z => Ext W z ∧ OwnR z W.heap.size (.slice (some ⟨eb, 0, none⟩) 0 0) 0 []) (fun z hz => hz.1) (Stable.and (Ext.stable W) (fun y z h k => ownR_below h k)) ⟨E0.out, O0.out⟩ ?_
      (try simp only [Act.put])
      refine anyU_two 4 6 3 _ _ rfl rfl rfl rfl (by kernel_rfl) ?rA1 ?rA2
      case rA1 =>
        intro u5 hu
        have hE : Ext W u5 := hu.1
        have lw5 := Below.size hE
        refine list_appP rfl (.tmp 21) (.tmp 24) rfl W.heap.size (.slice (some ⟨eb, 0, none⟩) 0 0) 0 [] rfl hu.2 none 0 0 [] rfl (fun _ => ⟨rfl, rfl⟩) rfl (fun a ha j u hu => by simp [bv] at hu) (by omega) lw5 ?_
        intro v1 u6 o1 g1
        change ∃ C' : World → Prop, _ ∧ _ ∧ _ ∧ anyU _ _ _ _ _ _ 3 _ _ _
        have O2 := Lib.hid (show OwnR u6 W.heap.size v1 0 [] by simpa using o1)
        have E2 := Lib.hid (show Ext W u6 from Below.trans hE (gr_belowS g1 lw5 (fun q hq => by cases hq; exact (World.ownsRow.lt hu.2 eb rfl).1)))
        clear hu hE o1 g1
        refine anchorF (fun z => Ext W z ∧ OwnR z W.heap.size v1 0 []) (fun z hz => hz.1) (Stable.and (Ext.stable W) (fun y z h k => ownR_below h k)) ⟨E2.out, O2.out⟩ ?_
        (try simp only [Act.put])
        refine anyU_one 6 2 _ rfl rfl (by kernel_rfl) ?_
        intro u3 hu
        refine list_build1 (by rfl) (.tmp 26) rfl (bv d) rfl (by rw [bv_len]; exact ld.out) ?_
        change ∃ C' : World → Prop, _ ∧ _ ∧ _ ∧ anyU _ _ _ _ _ _ 2 _ _ _
        have hE : Ext W u3 := hu.1
        have X1 := Lib.hid (Dg.box u3 ld.out)
        have E1 := Lib.hid (Ext.trans hE (bel_alloc1 u3 (.cells (bv d).toArray 25)))
        have O1 := Lib.hid (ownR_below hu.2 (bel_alloc1 u3 (.cells (bv d).toArray 25)))
        generalize World.alloc u3 _ = u4 at X1 E1 O1 ⊢
        generalize u3.heap.size = xb at X1 ⊢
        clear hu hE
        refine anchorF (fun z => Ext W z ∧ OwnR z W.heap.size v1 0 [] ∧ Dg z xb d) (fun z hz => hz.1) (Stable.and (Ext.stable W) (Stable.and (fun y z h k => ownR_below h k) (fun y z h k => Dg.bel h k))) ⟨E1.out, O1.out, X1.out⟩ ?_
        (try simp only [Act.put])
        refine anyU_tail 7 [8] rfl rfl (by decide) (by kernel_rfl) ?_
        intro u7 hu7
        simp only [Act.put, List.filterMap_cons, List.filterMap_nil, List.getElem?_cons_succ, List.getElem?_cons_zero]
        have O7 := Lib.hid hu7.2.1
        have X7 := Lib.hid hu7.2.2
        have E7 := Lib.hid hu7.1
        have lw7 := Below.size E7.out
        clear hu7
        refine (list_appP rfl (.tmp 25) (.tmp 27) rfl W.heap.size v1 0 [] rfl O7.out (some ⟨xb, 0, none⟩) 1 1 d rfl (fun h => by cases h) (by rw [X7.out.2]) (fun a ha => by injection ha with ha; subst ha; exact cells_of X7.out.bytes) (by omega) lw7 ?_)
        intro v2 u8 o8 g8
        have O8 := Lib.hid o8
        have E8 := Lib.hid (show Ext W u8 from Below.trans E7.out (gr_belowS g8 lw7 (fun q hq => (World.ownsRow.lt O7.out q hq).1)))
        have lw8 := Below.size E8.out
        clear o8 g8 O7 X7
        go_upto_region 5 with fail
        go_wp2_with (at_builtin; refine list_appP rfl (.tmp 29) (.tmp 32) rfl W.heap.size v2 1 (d) rfl O8.out none 0 0 [] rfl (fun _ => ⟨rfl, rfl⟩) rfl (fun a ha j u hu => by simp [bv] at hu) (by omega) lw8 ?_)
        intro v3 u9 o9 g9
        have O9 := Lib.hid o9
        have B9 := Lib.hid (bel_trans B4.out (show Ext W u9 from Below.trans E8.out (gr_belowS g9 lw8 (fun q hq => (World.ownsRow.lt O8.out q hq).1))))
        clear o9 g9
        go_wp2_with fail
        go_ret
        refine ⟨v3, rfl, ?_, B9.out⟩
        exact ownR_base (by simpa using O9.out) B4.out.size
      case rA2 =>
        intro u3 hu
        refine list_build1 (by rfl) (.tmp 26) rfl (bv d) rfl (by rw [bv_len]; exact ld.out) ?_
        change ∃ C' : World → Prop, _ ∧ _ ∧ _ ∧ anyU _ _ _ _ _ _ 3 _ _ _
        have hE : Ext W u3 := hu.1
        have X1 := Lib.hid (Dg.box u3 ld.out)
        have E1 := Lib.hid (Ext.trans hE (bel_alloc1 u3 (.cells (bv d).toArray 25)))
        have O1 := Lib.hid (ownR_below hu.2 (bel_alloc1 u3 (.cells (bv d).toArray 25)))
        have ne1 : eb ≠ u3.heap.size := by have := (World.ownsRow.lt hu.2 eb rfl).2; omega
        generalize World.alloc u3 _ = u4 at X1 E1 O1 ⊢
        generalize u3.heap.size = xb at X1 ne1 ⊢
        clear hu hE
        refine anchorF (fun z => Ext W z ∧ OwnR z W.heap.size (.slice (some ⟨eb, 0, none⟩) 0 0) 0 [] ∧ Dg z xb d) (fun z hz => hz.1) (Stable.and (Ext.stable W) (Stable.and (fun y z h k => ownR_below h k) (fun y z h k => Dg.bel h k))) ⟨E1.out, O1.out, X1.out⟩ ?_
        (try simp only [Act.put])
        refine anyU_one 4 2 _ rfl rfl (by kernel_rfl) ?_
        intro u5 hu
        have hE : Ext W u5 := hu.1
        have lw5 := Below.size hE
        refine list_appP rfl (.tmp 21) (.tmp 24) rfl W.heap.size (.slice (some ⟨eb, 0, none⟩) 0 0) 0 [] rfl hu.2.1 none 0 0 [] rfl (fun _ => ⟨rfl, rfl⟩) rfl (fun a ha j u hu => by simp [bv] at hu) (by omega) lw5 ?_
        intro v1 u6 o1 g1
        change ∃ C' : World → Prop, _ ∧ _ ∧ _ ∧ anyU _ _ _ _ _ _ 2 _ _ _
        have O2 := Lib.hid (show OwnR u6 W.heap.size v1 0 [] by simpa using o1)
        have E2 := Lib.hid (show Ext W u6 from Below.trans hE (gr_belowS g1 lw5 (fun q hq => by cases hq; exact (World.ownsRow.lt hu.2.1 eb rfl).1)))
        have X2 := Lib.hid (show Dg u6 xb d from ⟨(g1.block xb hu.2.2.lt (fun e => by injection e with e; exact (Ne.symm ne1) e)).trans hu.2.2.1, hu.2.2.2⟩)
        clear hu hE o1 g1
        refine anchorF (fun z => Ext W z ∧ OwnR z W.heap.size v1 0 [] ∧ Dg z xb d) (fun z hz => hz.1) (Stable.and (Ext.stable W) (Stable.and (fun y z h k => ownR_below h k) (fun y z h k => Dg.bel h k))) ⟨E2.out, O2.out, X2.out⟩ ?_
        (try simp only [Act.put])
        refine anyU_tail 7 [8] rfl rfl (by decide) (by kernel_rfl) ?_
        intro u7 hu7
        simp only [Act.put, List.filterMap_cons, List.filterMap_nil, List.getElem?_cons_succ, List.getElem?_cons_zero]
        have O7 := Lib.hid hu7.2.1
        have X7 := Lib.hid hu7.2.2
        have E7 := Lib.hid hu7.1
        have lw7 := Below.size E7.out
        clear hu7
        refine (list_appP rfl (.tmp 25) (.tmp 27) rfl W.heap.size v1 0 [] rfl O7.out (some ⟨xb, 0, none⟩) 1 1 d rfl (fun h => by cases h) (by rw [X7.out.2]) (fun a ha => by injection ha with ha; subst ha; exact cells_of X7.out.bytes) (by omega) lw7 ?_)
        intro v2 u8 o8 g8
        have O8 := Lib.hid o8
        have E8 := Lib.hid (show Ext W u8 from Below.trans E7.out (gr_belowS g8 lw7 (fun q hq => (World.ownsRow.lt O7.out q hq).1)))
        have lw8 := Below.size E8.out
        clear o8 g8 O7 X7
        go_upto_region 5 with fail
        go_wp2_with (at_builtin; refine list_appP rfl (.tmp 29) (.tmp 32) rfl W.heap.size v2 1 (d) rfl O8.out none 0 0 [] rfl (fun _ => ⟨rfl, rfl⟩) rfl (fun a ha j u hu => by simp [bv] at hu) (by omega) lw8 ?_)
        intro v3 u9 o9 g9
        have O9 := Lib.hid o9
        have B9 := Lib.hid (bel_trans B4.out (show Ext W u9 from Below.trans E8.out (gr_belowS g9 lw8 (fun q hq => (World.ownsRow.lt O8.out q hq).1))))
        clear o9 g9
        go_wp2_with fail
        go_ret
        refine ⟨v3, rfl, ?_, B9.out⟩
        exact ownR_base (by simpa using O9.out) B4.out.size
    case rB =>
      intro u3 hu
      refine list_build1 (by rfl) (.tmp 26) rfl (bv d) rfl (by rw [bv_len]; exact ld.out) ?_
      change ∃ C' : World → Prop, _ ∧ _ ∧ _ ∧ anyU _ _ _ _ _ _ 4 _ _ _
      have hE : Ext W u3 := hu
      have X1 := Lib.hid (Dg.box u3 ld.out)
      have E1 := Lib.hid (Ext.trans hE (bel_alloc1 u3 (.cells (bv d).toArray 25)))
      generalize World.alloc u3 _ = u4 at X1 E1 ⊢
      generalize u3.heap.size = xb at X1 ⊢
      clear hu hE
      refine anchorF (fun z => Ext W z ∧ Dg z xb d) (fun z hz => hz.1) (Stable.and (Ext.stable W) (fun y z h k => Dg.bel h k)) ⟨E1.out, X1.out⟩ ?_
      (try simp only [Act.put])
      refine anyU_one 0 3 _ rfl rfl (by kernel_rfl) ?_
      intro u1 hu
      go_wp2_with fail
      change ∃ C' : World → Prop, _ ∧ _ ∧ _ ∧ anyU _ _ _ _ _ _ 3 _ _ _
      have hE : Ext W u1 := hu.1
      have lw := Below.size hE
      have O0 := Lib.hid (show OwnR (u1.alloc (.cells #[] 25)) W.heap.size (.slice (some ⟨u1.heap.size, 0, none⟩) 0 0) 0 [] from ownR_base (World.ownsRow_made u1 #[] 0 (Nat.le_refl _) (by unfold maxLen; omega) rfl) lw)
      have E0 := Lib.hid (Ext.trans hE (bel_alloc1 u1 (.cells #[] 25)))
      have X0 := Lib.hid (hu.2.alloc (.cells #[] 25))
      have ne0 : xb ≠ u1.heap.size := by have := hu.2.lt; omega
      generalize World.alloc u1 _ = u2 at O0 E0 X0 ⊢
      generalize u1.heap.size = eb at O0 ne0 ⊢
      clear hu hE lw
      refine anchorF (fun z => Ext W z ∧ OwnR z W.heap.size (.slice (some ⟨eb, 0, none⟩) 0 0) 0 [] ∧ Dg z xb d) (fun z hz => hz.1) (Stable.and (Ext.stable W) (Stable.and (fun y z h k => ownR_below h k) (fun y z h k => Dg.bel h k))) ⟨E0.out, O0.out, X0.out⟩ ?_
      (try simp only [Act.put])
      refine anyU_one 4 2 _ rfl rfl (by kernel_rfl) ?_
      intro u5 hu
      have hE : Ext W u5 := hu.1
      have lw5 := Below.size hE
      refine list_appP rfl (.tmp 21) (.tmp 24) rfl W.heap.size (.slice (some ⟨eb, 0, none⟩) 0 0) 0 [] rfl hu.2.1 none 0 0 [] rfl (fun _ => ⟨rfl, rfl⟩) rfl (fun a ha j u hu => by simp [bv] at hu) (by omega) lw5 ?_
      intro v1 u6 o1 g1
      change ∃ C' : World → Prop, _ ∧ _ ∧ _ ∧ anyU _ _ _ _ _ _ 2 _ _ _
      have O2 := Lib.hid (show OwnR u6 W.heap.size v1 0 [] by simpa using o1)
      have E2 := Lib.hid (show Ext W u6 from Below.trans hE (gr_belowS g1 lw5 (fun q hq => by cases hq; exact (World.ownsRow.lt hu.2.1 eb rfl).1)))
      have X2 := Lib.hid (show Dg u6 xb d from ⟨(g1.block xb hu.2.2.lt (fun e => by injection e with e; exact ne0 e)).trans hu.2.2.1, hu.2.2.2⟩)
      clear hu hE o1 g1
      refine anchorF (fun z => Ext W z ∧ OwnR z W.heap.size v1 0 [] ∧ Dg z xb d) (fun z hz => hz.1) (Stable.and (Ext.stable W) (Stable.and (fun y z h k => ownR_below h k) (fun y z h k => Dg.bel h k))) ⟨E2.out, O2.out, X2.out⟩ ?_
      (try simp only [Act.put])
      refine anyU_tail 7 [8] rfl rfl (by decide) (by kernel_rfl) ?_
      intro u7 hu7
      simp only [Act.put, List.filterMap_cons, List.filterMap_nil, List.getElem?_cons_succ, List.getElem?_cons_zero]
      have O7 := Lib.hid hu7.2.1
      have X7 := Lib.hid hu7.2.2
      have E7 := Lib.hid hu7.1
      have lw7 := Below.size E7.out
      clear hu7
      refine (list_appP rfl (.tmp 25) (.tmp 27) rfl W.heap.size v1 0 [] rfl O7.out (some ⟨xb, 0, none⟩) 1 1 d rfl (fun h => by cases h) (by rw [X7.out.2]) (fun a ha => by injection ha with ha; subst ha; exact cells_of X7.out.bytes) (by omega) lw7 ?_)
      intro v2 u8 o8 g8
      have O8 := Lib.hid o8
      have E8 := Lib.hid (show Ext W u8 from Below.trans E7.out (gr_belowS g8 lw7 (fun q hq => (World.ownsRow.lt O7.out q hq).1)))
      have lw8 := Below.size E8.out
      clear o8 g8 O7 X7
      go_upto_region 5 with fail
      go_wp2_with (at_builtin; refine list_appP rfl (.tmp 29) (.tmp 32) rfl W.heap.size v2 1 (d) rfl O8.out none 0 0 [] rfl (fun _ => ⟨rfl, rfl⟩) rfl (fun a ha j u hu => by simp [bv] at hu) (by omega) lw8 ?_)
      intro v3 u9 o9 g9
      have O9 := Lib.hid o9
      have B9 := Lib.hid (bel_trans B4.out (show Ext W u9 from Below.trans E8.out (gr_belowS g9 lw8 (fun q hq => (World.ownsRow.lt O8.out q hq).1))))
      clear o9 g9
      go_wp2_with fail
      go_ret
      refine ⟨v3, rfl, ?_, B9.out⟩
      exact ownR_base (by simpa using O9.out) B4.out.size
set_option maxRecDepth 100000 in
set_option maxHeartbeats 4000000 in
theorem rput_emp (ad : Addr) (c : Nat) (hcm : c ≤ 9223372036854775807) (d : List Int) (w : World) (ld : Hid (d.length = 32)) :
    Calls Tryz.prog 34 #[.slice (some ad) 0 c, .agg (bv d).toArray] w fun e w' => ∃ v', e = .returned v' ∧ OwnR w' w.heap.size v' 1 d ∧ Below w.heap.size w w' := by
  have D0 := Lib.hid (Dg.box w ld.out)
  have B0 := Lib.hid (bel_alloc1 w (.cells (bv d).toArray 25))
  go_enter Tryz.func34, Tryz.ntmps34
  go_upto_region 2 with fail
  go_loopw [5] (fun y wr => y = .int .i64 0 ∧ Hid (Below w.heap.size w wr) ∧ Hid (Dg wr w.heap.size d)) (fun _ _ => 0)
  case atStart => exact ⟨rfl, B0, D0⟩
  case round =>
    clear B0 D0
    obtain ⟨rfl, HB, DB⟩ := hrel
    go_upto_region 2 with fail
    refine wp_region_any (by kernel_rfl) ?_
    change wpAny _ _ _ _ _ _ _ (World.drew _)
    generalize hWD : World.drew _ = W1
    have B1 := Lib.hid (show Below w.heap.size w W1 by rw [← hWD]; exact HB.out.drew)
    have D1 := Lib.hid (show Dg W1 w.heap.size d by rw [← hWD]; exact DB.out)
    clear hWD
    have hCD : ∀ u, Ext W1 u → Ext W1 u := fun u hu => hu
    refine region_U (D := Ext W1) (Ext W1) [11] (Ext.refl W1) ?_
    refine anyU_takeD (i := 0) (v := .int .i64 0) 7 rfl rfl (by kernel_rfl) (by kernel_rfl) (by kernel_rfl) (fun _ _ _ h => h) (by kernel_rfl) (Ext.stable _) hCD (yieldsU_val rfl (fun u hu => by go_simp)) ?_
    refine anyU_takeD (i := 1) (v := .slice (some ad) 0 c) 8 rfl rfl (by kernel_rfl) (by kernel_rfl) (by kernel_rfl) (fun _ _ _ h => h) (by kernel_rfl) (Ext.stable _) hCD (yieldsU_val rfl (fun u hu => by go_simp)) ?_
    refine anyU_takeD (i := 2) (v := .int .i64 0) 9 rfl rfl (by kernel_rfl) (by kernel_rfl) (by kernel_rfl) (fun _ _ _ h => h) (by kernel_rfl) (Ext.stable _) hCD (yieldsU_val rfl (fun u hu => by go_simp)) ?_
    refine anyU_takeD (i := 3) (v := .bool false) 10 rfl rfl (by kernel_rfl) (by kernel_rfl) (by kernel_rfl) (fun _ _ _ h => h) (by kernel_rfl) (Ext.stable _) hCD (yieldsU_val rfl (fun u hu => by go_simp)) ?_
    refine anyU_takeD (i := 4) (v := .bool false) 11 rfl rfl (by kernel_rfl) (by kernel_rfl) (by kernel_rfl) (fun _ _ _ h => h) (by kernel_rfl) (Ext.stable _) hCD (yieldsU_val rfl (fun u hu => by go_simp)) ?_
    simp only [Act.put, List.setIfInBounds_toArray, List.set_cons_succ, List.set_cons_zero]
    refine anyU_takeD (i := 5) (v := undef) 12 rfl rfl (by kernel_rfl) (by kernel_rfl) (by kernel_rfl) (fun _ _ _ h => h) (by kernel_rfl) (Ext.stable _) hCD (.inr ⟨by rfl, rfl⟩) ?_
    refine anyU_takeD (i := 6) (v := undef) 13 rfl rfl (by kernel_rfl) (by kernel_rfl) (by kernel_rfl) (fun _ _ _ h => h) (by kernel_rfl) (Ext.stable _) hCD (.inr ⟨by rfl, rfl⟩) ?_
    refine anyU_takeD (i := 7) (v := undef) 14 rfl rfl (by kernel_rfl) (by kernel_rfl) (by kernel_rfl) (fun _ _ _ h => h) (by kernel_rfl) (Ext.stable _) hCD (.inr ⟨by rfl, rfl⟩) ?_
    refine anyU_takeD (i := 8) (v := undef) 15 rfl rfl (by kernel_rfl) (by kernel_rfl) (by kernel_rfl) (fun _ _ _ h => h) (by kernel_rfl) (Ext.stable _) hCD (.inr ⟨by rfl, rfl⟩) ?_
    refine anyU_takeD (i := 9) (v := undef) 16 rfl rfl (by kernel_rfl) (by kernel_rfl) (by kernel_rfl) (fun _ _ _ h => h) (by kernel_rfl) (Ext.stable _) hCD (.inr ⟨by rfl, rfl⟩) ?_
    refine anyU_takeD (i := 10) (v := undef) 17 rfl rfl (by kernel_rfl) (by kernel_rfl) (by kernel_rfl) (fun _ _ _ h => h) (by kernel_rfl) (Ext.stable _) hCD (.inr ⟨by rfl, rfl⟩) ?_
    simp only [Act.put, List.setIfInBounds_toArray, List.set_cons_succ, List.set_cons_zero]
    refine anyU_tail 11 [] rfl rfl (by decide) (by kernel_rfl) ?_
    intro u3 hu3
    simp only [Act.put, List.filterMap_cons, List.filterMap_nil, List.getElem?_cons_succ, List.getElem?_cons_zero]
    have B3 := Lib.hid (bel_trans B1.out hu3)
    have D3 := Lib.hid (D1.out.bel hu3)
    clear hu3 D1 B1
    go_upto_region 4 with fail
    by_cases hc0 : c = 0
    case pos =>
      subst hc0
      refine wp_region_any (by kernel_rfl) ?_
      change wpAny _ _ _ _ _ _ _ (World.drew _)
      generalize hWD : World.drew _ = W
      have B4 := Lib.hid (show Below w.heap.size w W by rw [← hWD]; exact B3.out.drew)
      have D4 := Lib.hid (show Dg W w.heap.size d by rw [← hWD]; exact D3.out)
      have Z4 := Lib.hid True.intro
      clear hWD
      have hCD : ∀ u, Ext W u → Ext W u := fun u hu => hu
      refine region_U (D := Ext W) (Ext W) [7, 8] (Ext.refl W) ?_
      refine anyU_takeD (i := 1) (v := .slice (some ad) 0 0) 22 rfl rfl (by kernel_rfl) (by kernel_rfl) (by kernel_rfl) (fun _ _ _ h => h) (by kernel_rfl) (Ext.stable _) hCD (yieldsU_val rfl (fun u hu => by go_simp)) ?_
      refine anyU_takeD (i := 2) (v := .int .i64 0) 23 rfl rfl (by kernel_rfl) (by kernel_rfl) (by kernel_rfl) (fun _ _ _ h => h) (by kernel_rfl) (Ext.stable _) hCD (yieldsU_val rfl (fun u hu => by go_simp)) ?_
      refine anyU_takeD (i := 3) (v := .slice (some ad) 0 0) 24 rfl rfl (by kernel_rfl) (by kernel_rfl) (by kernel_rfl) (fun _ _ _ h => h) (by kernel_rfl) (Ext.stable _) hCD (yieldsU_val rfl (fun u hu => by go_simp)) ?_
      refine anyU_takeD (i := 5) (v := .agg (bv d).toArray) 26 rfl rfl (by kernel_rfl) (by kernel_rfl) (by kernel_rfl) (fun _ _ _ h => h) (by kernel_rfl) (Ext.stable _) hCD (yieldsU_of_C (yields_loadD (by rfl) (.tmp 3) rfl w.heap.size rfl d ld.out (fun u hu => D4.out.bel hu))) ?_
      simp only [Act.put, List.setIfInBounds_toArray, List.set_cons_succ, List.set_cons_zero]
      refine anyU_two 0 6 4 _ _ rfl rfl rfl rfl (by kernel_rfl) ?rA ?rB
      case rA =>
        intro u1 hu
        go_wp2_with fail
        change ∃ C' : World → Prop, _ ∧ _ ∧ _ ∧ anyU _ _ _ _ _ _ 4 _ _ _
        have hE : Ext W u1 := hu
        have lw := Below.size hE
        have O0 := Lib.hid (show OwnR (u1.alloc (.cells #[] 25)) W.heap.size (.slice (some ⟨u1.heap.size, 0, none⟩) 0 0) 0 [] from ownR_base (World.ownsRow_made u1 #[] 0 (Nat.le_refl _) (by unfold maxLen; omega) rfl) lw)
        have E0 := Lib.hid (Ext.trans hE (bel_alloc1 u1 (.cells #[] 25)))
        generalize World.alloc u1 _ = u2 at O0 E0 ⊢
        generalize u1.heap.size = eb at O0 ⊢
        clear hu hE lw
        refine anchorF (fun z => Ext W z ∧ OwnR z W.heap.size (.slice (some ⟨eb, 0, none⟩) 0 0) 0 []) (fun z hz => hz.1) (Stable.and (Ext.stable W) (fun y z h k => ownR_below h k)) ⟨E0.out, O0.out⟩ ?_
        (try simp only [Act.put])
        refine anyU_two 4 6 3 _ _ rfl rfl rfl rfl (by kernel_rfl) ?rA1 ?rA2
        case rA1 =>
          intro u5 hu
          have hE : Ext W u5 := hu.1
          have lw5 := Below.size hE
          refine list_appP rfl (.tmp 21) (.tmp 24) rfl W.heap.size (.slice (some ⟨eb, 0, none⟩) 0 0) 0 [] rfl hu.2 (some ad) 0 0 [] rfl (fun h => by cases h) rfl (fun a ha j u hu => by simp [bv] at hu) (by omega) lw5 ?_
          intro v1 u6 o1 g1
          change ∃ C' : World → Prop, _ ∧ _ ∧ _ ∧ anyU _ _ _ _ _ _ 3 _ _ _
          have O2 := Lib.hid (show OwnR u6 W.heap.size v1 0 [] by simpa using o1)
          have E2 := Lib.hid (show Ext W u6 from Below.trans hE (gr_belowS g1 lw5 (fun q hq => by cases hq; exact (World.ownsRow.lt hu.2 eb rfl).1)))
          clear hu hE o1 g1
          refine anchorF (fun z => Ext W z ∧ OwnR z W.heap.size v1 0 []) (fun z hz => hz.1) (Stable.and (Ext.stable W) (fun y z h k => ownR_below h k)) ⟨E2.out, O2.out⟩ ?_
          (try simp only [Act.put])
          refine anyU_one 6 2 _ rfl rfl (by kernel_rfl) ?_
          intro u3 hu
          refine list_build1 (by rfl) (.tmp 26) rfl (bv d) rfl (by rw [bv_len]; exact ld.out) ?_
          change ∃ C' : World → Prop, _ ∧ _ ∧ _ ∧ anyU _ _ _ _ _ _ 2 _ _ _
          have hE : Ext W u3 := hu.1
          have X1 := Lib.hid (Dg.box u3 ld.out)
          have E1 := Lib.hid (Ext.trans hE (bel_alloc1 u3 (.cells (bv d).toArray 25)))
          have O1 := Lib.hid (ownR_below hu.2 (bel_alloc1 u3 (.cells (bv d).toArray 25)))
          generalize World.alloc u3 _ = u4 at X1 E1 O1 ⊢
          generalize u3.heap.size = xb at X1 ⊢
          clear hu hE
          refine anchorF (fun z => Ext W z ∧ OwnR z W.heap.size v1 0 [] ∧ Dg z xb d) (fun z hz => hz.1) (Stable.and (Ext.stable W) (Stable.and (fun y z h k => ownR_below h k) (fun y z h k => Dg.bel h k))) ⟨E1.out, O1.out, X1.out⟩ ?_
          (try simp only [Act.put])
          refine anyU_tail 7 [8] rfl rfl (by decide) (by kernel_rfl) ?_
          intro u7 hu7
          simp only [Act.put, List.filterMap_cons, List.filterMap_nil, List.getElem?_cons_succ, List.getElem?_cons_zero]
          have O7 := Lib.hid hu7.2.1
          have X7 := Lib.hid hu7.2.2
          have E7 := Lib.hid hu7.1
          have lw7 := Below.size E7.out
          clear hu7
          refine (list_appP rfl (.tmp 25) (.tmp 27) rfl W.heap.size v1 0 [] rfl O7.out (some ⟨xb, 0, none⟩) 1 1 d rfl (fun h => by cases h) (by rw [X7.out.2]) (fun a ha => by injection ha with ha; subst ha; exact cells_of X7.out.bytes) (by omega) lw7 ?_)
          intro v2 u8 o8 g8
          have O8 := Lib.hid o8
          have E8 := Lib.hid (show Ext W u8 from Below.trans E7.out (gr_belowS g8 lw7 (fun q hq => (World.ownsRow.lt O7.out q hq).1)))
          have lw8 := Below.size E8.out
          clear o8 g8 O7 X7
          go_upto_region 5 with fail
          go_wp2_with (at_builtin; refine list_appP rfl (.tmp 29) (.tmp 32) rfl W.heap.size v2 1 (d) rfl O8.out (some ad) 0 0 [] rfl (fun h => by cases h) rfl (fun a ha j u hu => by simp [bv] at hu) (by omega) lw8 ?_)
          intro v3 u9 o9 g9
          have O9 := Lib.hid o9
          have B9 := Lib.hid (bel_trans B4.out (show Ext W u9 from Below.trans E8.out (gr_belowS g9 lw8 (fun q hq => (World.ownsRow.lt O8.out q hq).1))))
          clear o9 g9
          go_wp2_with fail
          go_ret
          refine ⟨v3, rfl, ?_, B9.out⟩
          exact ownR_base (by simpa using O9.out) B4.out.size
        case rA2 =>
          intro u3 hu
          refine list_build1 (by rfl) (.tmp 26) rfl (bv d) rfl (by rw [bv_len]; exact ld.out) ?_
          change ∃ C' : World → Prop, _ ∧ _ ∧ _ ∧ anyU _ _ _ _ _ _ 3 _ _ _
          have hE : Ext W u3 := hu.1
          have X1 := Lib.hid (Dg.box u3 ld.out)
          have E1 := Lib.hid (Ext.trans hE (bel_alloc1 u3 (.cells (bv d).toArray 25)))
          have O1 := Lib.hid (ownR_below hu.2 (bel_alloc1 u3 (.cells (bv d).toArray 25)))
          have ne1 : eb ≠ u3.heap.size := by have := (World.ownsRow.lt hu.2 eb rfl).2; omega
          generalize World.alloc u3 _ = u4 at X1 E1 O1 ⊢
          generalize u3.heap.size = xb at X1 ne1 ⊢
          clear hu hE
          refine anchorF (fun z => Ext W z ∧ OwnR z W.heap.size (.slice (some ⟨eb, 0, none⟩) 0 0) 0 [] ∧ Dg z xb d) (fun z hz => hz.1) (Stable.and (Ext.stable W) (Stable.and (fun y z h k => ownR_below h k) (fun y z h k => Dg.bel h k))) ⟨E1.out, O1.out, X1.out⟩ ?_
          (try simp only [Act.put])
          refine anyU_one 4 2 _ rfl rfl (by kernel_rfl) ?_
          intro u5 hu
          have hE : Ext W u5 := hu.1
          have lw5 := Below.size hE
          refine list_appP rfl (.tmp 21) (.tmp 24) rfl W.heap.size (.slice (some ⟨eb, 0, none⟩) 0 0) 0 [] rfl hu.2.1 (some ad) 0 0 [] rfl (fun h => by cases h) rfl (fun a ha j u hu => by simp [bv] at hu) (by omega) lw5 ?_
          intro v1 u6 o1 g1
          change ∃ C' : World → Prop, _ ∧ _ ∧ _ ∧ anyU _ _ _ _ _ _ 2 _ _ _
          have O2 := Lib.hid (show OwnR u6 W.heap.size v1 0 [] by simpa using o1)
          have E2 := Lib.hid (show Ext W u6 from Below.trans hE (gr_belowS g1 lw5 (fun q hq => by cases hq; exact (World.ownsRow.lt hu.2.1 eb rfl).1)))
          have X2 := Lib.hid (show Dg u6 xb d from ⟨(g1.block xb hu.2.2.lt (fun e => by injection e with e; exact (Ne.symm ne1) e)).trans hu.2.2.1, hu.2.2.2⟩)
          clear hu hE o1 g1
          refine anchorF (fun z => Ext W z ∧ OwnR z W.heap.size v1 0 [] ∧ Dg z xb d) (fun z hz => hz.1) (Stable.and (Ext.stable W) (Stable.and (fun y z h k => ownR_below h k) (fun y z h k => Dg.bel h k))) ⟨E2.out, O2.out, X2.out⟩ ?_
          (try simp only [Act.put])
          refine anyU_tail 7 [8] rfl rfl (by decide) (by kernel_rfl) ?_
          intro u7 hu7
          simp only [Act.put, List.filterMap_cons, List.filterMap_nil, List.getElem?_cons_succ, List.getElem?_cons_zero]
          have O7 := Lib.hid hu7.2.1
          have X7 := Lib.hid hu7.2.2
          have E7 := Lib.hid hu7.1
          have lw7 := Below.size E7.out
          clear hu7
          refine (list_appP rfl (.tmp 25) (.tmp 27) rfl W.heap.size v1 0 [] rfl O7.out (some ⟨xb, 0, none⟩) 1 1 d rfl (fun h => by cases h) (by rw [X7.out.2]) (fun a ha => by injection ha with ha; subst ha; exact cells_of X7.out.bytes) (by omega) lw7 ?_)
          intro v2 u8 o8 g8
          have O8 := Lib.hid o8
          have E8 := Lib.hid (show Ext W u8 from Below.trans E7.out (gr_belowS g8 lw7 (fun q hq => (World.ownsRow.lt O7.out q hq).1)))
          have lw8 := Below.size E8.out
          clear o8 g8 O7 X7
          go_upto_region 5 with fail
          go_wp2_with (at_builtin; refine list_appP rfl (.tmp 29) (.tmp 32) rfl W.heap.size v2 1 (d) rfl O8.out (some ad) 0 0 [] rfl (fun h => by cases h) rfl (fun a ha j u hu => by simp [bv] at hu) (by omega) lw8 ?_)
          intro v3 u9 o9 g9
          have O9 := Lib.hid o9
          have B9 := Lib.hid (bel_trans B4.out (show Ext W u9 from Below.trans E8.out (gr_belowS g9 lw8 (fun q hq => (World.ownsRow.lt O8.out q hq).1))))
          clear o9 g9
          go_wp2_with fail
          go_ret
          refine ⟨v3, rfl, ?_, B9.out⟩
          exact ownR_base (by simpa using O9.out) B4.out.size
      case rB =>
        intro u3 hu
        refine list_build1 (by rfl) (.tmp 26) rfl (bv d) rfl (by rw [bv_len]; exact ld.out) ?_
        change ∃ C' : World → Prop, _ ∧ _ ∧ _ ∧ anyU _ _ _ _ _ _ 4 _ _ _
        have hE : Ext W u3 := hu
        have X1 := Lib.hid (Dg.box u3 ld.out)
        have E1 := Lib.hid (Ext.trans hE (bel_alloc1 u3 (.cells (bv d).toArray 25)))
        generalize World.alloc u3 _ = u4 at X1 E1 ⊢
        generalize u3.heap.size = xb at X1 ⊢
        clear hu hE
        refine anchorF (fun z => Ext W z ∧ Dg z xb d) (fun z hz => hz.1) (Stable.and (Ext.stable W) (fun y z h k => Dg.bel h k)) ⟨E1.out, X1.out⟩ ?_
        (try simp only [Act.put])
        refine anyU_one 0 3 _ rfl rfl (by kernel_rfl) ?_
        intro u1 hu
        go_wp2_with fail
        change ∃ C' : World → Prop, _ ∧ _ ∧ _ ∧ anyU _ _ _ _ _ _ 3 _ _ _
        have hE : Ext W u1 := hu.1
        have lw := Below.size hE
        have O0 := Lib.hid (show OwnR (u1.alloc (.cells #[] 25)) W.heap.size (.slice (some ⟨u1.heap.size, 0, none⟩) 0 0) 0 [] from ownR_base (World.ownsRow_made u1 #[] 0 (Nat.le_refl _) (by unfold maxLen; omega) rfl) lw)
        have E0 := Lib.hid (Ext.trans hE (bel_alloc1 u1 (.cells #[] 25)))
        have X0 := Lib.hid (hu.2.alloc (.cells #[] 25))
        have ne0 : xb ≠ u1.heap.size := by have := hu.2.lt; omega
        generalize World.alloc u1 _ = u2 at O0 E0 X0 ⊢
        generalize u1.heap.size = eb at O0 ne0 ⊢
        clear hu hE lw
        refine anchorF (fun z => Ext W z ∧ OwnR z W.heap.size (.slice (some ⟨eb, 0, none⟩) 0 0) 0 [] ∧ Dg z xb d) (fun z hz => hz.1) (Stable.and (Ext.stable W) (Stable.and (fun y z h k => ownR_below h k) (fun y z h k => Dg.bel h k))) ⟨E0.out, O0.out, X0.out⟩ ?_
        (try simp only [Act.put])
        refine anyU_one 4 2 _ rfl rfl (by kernel_rfl) ?_
        intro u5 hu
        have hE : Ext W u5 := hu.1
        have lw5 := Below.size hE
        refine list_appP rfl (.tmp 21) (.tmp 24) rfl W.heap.size (.slice (some ⟨eb, 0, none⟩) 0 0) 0 [] rfl hu.2.1 (some ad) 0 0 [] rfl (fun h => by cases h) rfl (fun a ha j u hu => by simp [bv] at hu) (by omega) lw5 ?_
        intro v1 u6 o1 g1
        change ∃ C' : World → Prop, _ ∧ _ ∧ _ ∧ anyU _ _ _ _ _ _ 2 _ _ _
        have O2 := Lib.hid (show OwnR u6 W.heap.size v1 0 [] by simpa using o1)
        have E2 := Lib.hid (show Ext W u6 from Below.trans hE (gr_belowS g1 lw5 (fun q hq => by cases hq; exact (World.ownsRow.lt hu.2.1 eb rfl).1)))
        have X2 := Lib.hid (show Dg u6 xb d from ⟨(g1.block xb hu.2.2.lt (fun e => by injection e with e; exact ne0 e)).trans hu.2.2.1, hu.2.2.2⟩)
        clear hu hE o1 g1
        refine anchorF (fun z => Ext W z ∧ OwnR z W.heap.size v1 0 [] ∧ Dg z xb d) (fun z hz => hz.1) (Stable.and (Ext.stable W) (Stable.and (fun y z h k => ownR_below h k) (fun y z h k => Dg.bel h k))) ⟨E2.out, O2.out, X2.out⟩ ?_
        (try simp only [Act.put])
        refine anyU_tail 7 [8] rfl rfl (by decide) (by kernel_rfl) ?_
        intro u7 hu7
        simp only [Act.put, List.filterMap_cons, List.filterMap_nil, List.getElem?_cons_succ, List.getElem?_cons_zero]
        have O7 := Lib.hid hu7.2.1
        have X7 := Lib.hid hu7.2.2
        have E7 := Lib.hid hu7.1
        have lw7 := Below.size E7.out
        clear hu7
        refine (list_appP rfl (.tmp 25) (.tmp 27) rfl W.heap.size v1 0 [] rfl O7.out (some ⟨xb, 0, none⟩) 1 1 d rfl (fun h => by cases h) (by rw [X7.out.2]) (fun a ha => by injection ha with ha; subst ha; exact cells_of X7.out.bytes) (by omega) lw7 ?_)
        intro v2 u8 o8 g8
        have O8 := Lib.hid o8
        have E8 := Lib.hid (show Ext W u8 from Below.trans E7.out (gr_belowS g8 lw7 (fun q hq => (World.ownsRow.lt O7.out q hq).1)))
        have lw8 := Below.size E8.out
        clear o8 g8 O7 X7
        go_upto_region 5 with fail
        go_wp2_with (at_builtin; refine list_appP rfl (.tmp 29) (.tmp 32) rfl W.heap.size v2 1 (d) rfl O8.out (some ad) 0 0 [] rfl (fun h => by cases h) rfl (fun a ha j u hu => by simp [bv] at hu) (by omega) lw8 ?_)
        intro v3 u9 o9 g9
        have O9 := Lib.hid o9
        have B9 := Lib.hid (bel_trans B4.out (show Ext W u9 from Below.trans E8.out (gr_belowS g9 lw8 (fun q hq => (World.ownsRow.lt O8.out q hq).1))))
        clear o9 g9
        go_wp2_with fail
        go_ret
        refine ⟨v3, rfl, ?_, B9.out⟩
        exact ownR_base (by simpa using O9.out) B4.out.size
    case neg =>
      refine wp_region_any (by kernel_rfl) ?_
      change wpAny _ _ _ _ _ _ _ (World.drew _)
      generalize hWD : World.drew _ = W
      have B4 := Lib.hid (show Below w.heap.size w W by rw [← hWD]; exact B3.out.drew)
      have D4 := Lib.hid (show Dg W w.heap.size d by rw [← hWD]; exact D3.out)
      have Z4 := Lib.hid True.intro
      clear hWD
      have hCD : ∀ u, Ext W u → Ext W u := fun u hu => hu
      refine region_U (D := Ext W) (Ext W) [7, 8] (Ext.refl W) ?_
      refine anyU_takeD (i := 1) (v := .slice (some ad) 0 c) 22 rfl rfl (by kernel_rfl) (by kernel_rfl) (by kernel_rfl) (fun _ _ _ h => h) (by kernel_rfl) (Ext.stable _) hCD (yieldsU_val rfl (fun u hu => by go_simp)) ?_
      refine anyU_takeD (i := 2) (v := .int .i64 0) 23 rfl rfl (by kernel_rfl) (by kernel_rfl) (by kernel_rfl) (fun _ _ _ h => h) (by kernel_rfl) (Ext.stable _) hCD (yieldsU_val rfl (fun u hu => by go_simp)) ?_
      refine anyU_takeD (i := 3) (v := .slice (some ad) 0 c) 24 rfl rfl (by kernel_rfl) (by kernel_rfl) (by kernel_rfl) (fun _ _ _ h => h) (by kernel_rfl) (Ext.stable _) hCD (yieldsU_val rfl (fun u hu => by go_simp)) ?_
      refine anyU_takeD (i := 5) (v := .agg (bv d).toArray) 26 rfl rfl (by kernel_rfl) (by kernel_rfl) (by kernel_rfl) (fun _ _ _ h => h) (by kernel_rfl) (Ext.stable _) hCD (yieldsU_of_C (yields_loadD (by rfl) (.tmp 3) rfl w.heap.size rfl d ld.out (fun u hu => D4.out.bel hu))) ?_
      simp only [Act.put, List.setIfInBounds_toArray, List.set_cons_succ, List.set_cons_zero]
      refine anyU_two 0 6 4 _ _ rfl rfl rfl rfl (by kernel_rfl) ?rA ?rB
      case rA =>
        intro u1 hu
        go_wp2_with fail
        change ∃ C' : World → Prop, _ ∧ _ ∧ _ ∧ anyU _ _ _ _ _ _ 4 _ _ _
        have hE : Ext W u1 := hu
        have lw := Below.size hE
        have O0 := Lib.hid (show OwnR (u1.alloc (.cells #[] 25)) W.heap.size (.slice (some ⟨u1.heap.size, 0, none⟩) 0 0) 0 [] from ownR_base (World.ownsRow_made u1 #[] 0 (Nat.le_refl _) (by unfold maxLen; omega) rfl) lw)
        have E0 := Lib.hid (Ext.trans hE (bel_alloc1 u1 (.cells #[] 25)))
        generalize World.alloc u1 _ = u2 at O0 E0 ⊢
        generalize u1.heap.size = eb at O0 ⊢
        clear hu hE lw
        refine anchorF (fun z => Ext W z ∧ OwnR z W.heap.size (.slice (some ⟨eb, 0, none⟩) 0 0) 0 []) (fun z hz => hz.1) (Stable.and (Ext.stable W) (fun y z h k => ownR_below h k)) ⟨E0.out, O0.out⟩ ?_
        (try simp only [Act.put])
        refine anyU_two 4 6 3 _ _ rfl rfl rfl rfl (by kernel_rfl) ?rA1 ?rA2
        case rA1 =>
          intro u5 hu
          have hE : Ext W u5 := hu.1
          have lw5 := Below.size hE
          refine list_appP rfl (.tmp 21) (.tmp 24) rfl W.heap.size (.slice (some ⟨eb, 0, none⟩) 0 0) 0 [] rfl hu.2 (some ad) 0 c [] rfl (fun h => by cases h) rfl (fun a ha j u hu => by simp [bv] at hu) (by omega) lw5 ?_
          intro v1 u6 o1 g1
          change ∃ C' : World → Prop, _ ∧ _ ∧ _ ∧ anyU _ _ _ _ _ _ 3 _ _ _
          have O2 := Lib.hid (show OwnR u6 W.heap.size v1 0 [] by simpa using o1)
          have E2 := Lib.hid (show Ext W u6 from Below.trans hE (gr_belowS g1 lw5 (fun q hq => by cases hq; exact (World.ownsRow.lt hu.2 eb rfl).1)))
          clear hu hE o1 g1
          refine anchorF (fun z => Ext W z ∧ OwnR z W.heap.size v1 0 []) (fun z hz => hz.1) (Stable.and (Ext.stable W) (fun y z h k => ownR_below h k)) ⟨E2.out, O2.out⟩ ?_
          (try simp only [Act.put])
          refine anyU_one 6 2 _ rfl rfl (by kernel_rfl) ?_
          intro u3 hu
          refine list_build1 (by rfl) (.tmp 26) rfl (bv d) rfl (by rw [bv_len]; exact ld.out) ?_
          change ∃ C' : World → Prop, _ ∧ _ ∧ _ ∧ anyU _ _ _ _ _ _ 2 _ _ _
          have hE : Ext W u3 := hu.1
          have X1 := Lib.hid (Dg.box u3 ld.out)
          have E1 := Lib.hid (Ext.trans hE (bel_alloc1 u3 (.cells (bv d).toArray 25)))
          have O1 := Lib.hid (ownR_below hu.2 (bel_alloc1 u3 (.cells (bv d).toArray 25)))
          generalize World.alloc u3 _ = u4 at X1 E1 O1 ⊢
          generalize u3.heap.size = xb at X1 ⊢
          clear hu hE
          refine anchorF (fun z => Ext W z ∧ OwnR z W.heap.size v1 0 [] ∧ Dg z xb d) (fun z hz => hz.1) (Stable.and (Ext.stable W) (Stable.and (fun y z h k => ownR_below h k) (fun y z h k => Dg.bel h k))) ⟨E1.out, O1.out, X1.out⟩ ?_
          (try simp only [Act.put])
          refine anyU_tail 7 [8] rfl rfl (by decide) (by kernel_rfl) ?_
          intro u7 hu7
          simp only [Act.put, List.filterMap_cons, List.filterMap_nil, List.getElem?_cons_succ, List.getElem?_cons_zero]
          have O7 := Lib.hid hu7.2.1
          have X7 := Lib.hid hu7.2.2
          have E7 := Lib.hid hu7.1
          have lw7 := Below.size E7.out
          clear hu7
          refine (list_appP rfl (.tmp 25) (.tmp 27) rfl W.heap.size v1 0 [] rfl O7.out (some ⟨xb, 0, none⟩) 1 1 d rfl (fun h => by cases h) (by rw [X7.out.2]) (fun a ha => by injection ha with ha; subst ha; exact cells_of X7.out.bytes) (by omega) lw7 ?_)
          intro v2 u8 o8 g8
          have O8 := Lib.hid o8
          have E8 := Lib.hid (show Ext W u8 from Below.trans E7.out (gr_belowS g8 lw7 (fun q hq => (World.ownsRow.lt O7.out q hq).1)))
          have lw8 := Below.size E8.out
          clear o8 g8 O7 X7
          go_upto_region 5 with fail
          go_wp2_with (at_builtin; refine list_appP rfl (.tmp 29) (.tmp 32) rfl W.heap.size v2 1 (d) rfl O8.out (some (ad.add (0 * 32))) 0 c [] rfl (fun h => by cases h) rfl (fun a ha j u hu => by simp [bv] at hu) (by omega) lw8 ?_)
          intro v3 u9 o9 g9
          have O9 := Lib.hid o9
          have B9 := Lib.hid (bel_trans B4.out (show Ext W u9 from Below.trans E8.out (gr_belowS g9 lw8 (fun q hq => (World.ownsRow.lt O8.out q hq).1))))
          clear o9 g9
          go_wp2_with fail
          go_ret
          refine ⟨v3, rfl, ?_, B9.out⟩
          exact ownR_base (by simpa using O9.out) B4.out.size
        case rA2 =>
          intro u3 hu
          refine list_build1 (by rfl) (.tmp 26) rfl (bv d) rfl (by rw [bv_len]; exact ld.out) ?_
          change ∃ C' : World → Prop, _ ∧ _ ∧ _ ∧ anyU _ _ _ _ _ _ 3 _ _ _
          have hE : Ext W u3 := hu.1
          have X1 := Lib.hid (Dg.box u3 ld.out)
          have E1 := Lib.hid (Ext.trans hE (bel_alloc1 u3 (.cells (bv d).toArray 25)))
          have O1 := Lib.hid (ownR_below hu.2 (bel_alloc1 u3 (.cells (bv d).toArray 25)))
          have ne1 : eb ≠ u3.heap.size := by have := (World.ownsRow.lt hu.2 eb rfl).2; omega
          generalize World.alloc u3 _ = u4 at X1 E1 O1 ⊢
          generalize u3.heap.size = xb at X1 ne1 ⊢
          clear hu hE
          refine anchorF (fun z => Ext W z ∧ OwnR z W.heap.size (.slice (some ⟨eb, 0, none⟩) 0 0) 0 [] ∧ Dg z xb d) (fun z hz => hz.1) (Stable.and (Ext.stable W) (Stable.and (fun y z h k => ownR_below h k) (fun y z h k => Dg.bel h k))) ⟨E1.out, O1.out, X1.out⟩ ?_
          (try simp only [Act.put])
          refine anyU_one 4 2 _ rfl rfl (by kernel_rfl) ?_
          intro u5 hu
          have hE : Ext W u5 := hu.1
          have lw5 := Below.size hE
          refine list_appP rfl (.tmp 21) (.tmp 24) rfl W.heap.size (.slice (some ⟨eb, 0, none⟩) 0 0) 0 [] rfl hu.2.1 (some ad) 0 c [] rfl (fun h => by cases h) rfl (fun a ha j u hu => by simp [bv] at hu) (by omega) lw5 ?_
          intro v1 u6 o1 g1
          change ∃ C' : World → Prop, _ ∧ _ ∧ _ ∧ anyU _ _ _ _ _ _ 2 _ _ _
          have O2 := Lib.hid (show OwnR u6 W.heap.size v1 0 [] by simpa using o1)
          have E2 := Lib.hid (show Ext W u6 from Below.trans hE (gr_belowS g1 lw5 (fun q hq => by cases hq; exact (World.ownsRow.lt hu.2.1 eb rfl).1)))
          have X2 := Lib.hid (show Dg u6 xb d from ⟨(g1.block xb hu.2.2.lt (fun e => by injection e with e; exact (Ne.symm ne1) e)).trans hu.2.2.1, hu.2.2.2⟩)
          clear hu hE o1 g1
          refine anchorF (fun z => Ext W z ∧ OwnR z W.heap.size v1 0 [] ∧ Dg z xb d) (fun z hz => hz.1) (Stable.and (Ext.stable W) (Stable.and (fun y z h k => ownR_below h k) (fun y z h k => Dg.bel h k))) ⟨E2.out, O2.out, X2.out⟩ ?_
          (try simp only [Act.put])
          refine anyU_tail 7 [8] rfl rfl (by decide) (by kernel_rfl) ?_
          intro u7 hu7
          simp only [Act.put, List.filterMap_cons, List.filterMap_nil, List.getElem?_cons_succ, List.getElem?_cons_zero]
          have O7 := Lib.hid hu7.2.1
          have X7 := Lib.hid hu7.2.2
          have E7 := Lib.hid hu7.1
          have lw7 := Below.size E7.out
          clear hu7
          refine (list_appP rfl (.tmp 25) (.tmp 27) rfl W.heap.size v1 0 [] rfl O7.out (some ⟨xb, 0, none⟩) 1 1 d rfl (fun h => by cases h) (by rw [X7.out.2]) (fun a ha => by injection ha with ha; subst ha; exact cells_of X7.out.bytes) (by omega) lw7 ?_)
          intro v2 u8 o8 g8
          have O8 := Lib.hid o8
          have E8 := Lib.hid (show Ext W u8 from Below.trans E7.out (gr_belowS g8 lw7 (fun q hq => (World.ownsRow.lt O7.out q hq).1)))
          have lw8 := Below.size E8.out
          clear o8 g8 O7 X7
          go_upto_region 5 with fail
          go_wp2_with (at_builtin; refine list_appP rfl (.tmp 29) (.tmp 32) rfl W.heap.size v2 1 (d) rfl O8.out (some (ad.add (0 * 32))) 0 c [] rfl (fun h => by cases h) rfl (fun a ha j u hu => by simp [bv] at hu) (by omega) lw8 ?_)
          intro v3 u9 o9 g9
          have O9 := Lib.hid o9
          have B9 := Lib.hid (bel_trans B4.out (show Ext W u9 from Below.trans E8.out (gr_belowS g9 lw8 (fun q hq => (World.ownsRow.lt O8.out q hq).1))))
          clear o9 g9
          go_wp2_with fail
          go_ret
          refine ⟨v3, rfl, ?_, B9.out⟩
          exact ownR_base (by simpa using O9.out) B4.out.size
      case rB =>
        intro u3 hu
        refine list_build1 (by rfl) (.tmp 26) rfl (bv d) rfl (by rw [bv_len]; exact ld.out) ?_
        change ∃ C' : World → Prop, _ ∧ _ ∧ _ ∧ anyU _ _ _ _ _ _ 4 _ _ _
        have hE : Ext W u3 := hu
        have X1 := Lib.hid (Dg.box u3 ld.out)
        have E1 := Lib.hid (Ext.trans hE (bel_alloc1 u3 (.cells (bv d).toArray 25)))
        generalize World.alloc u3 _ = u4 at X1 E1 ⊢
        generalize u3.heap.size = xb at X1 ⊢
        clear hu hE
        refine anchorF (fun z => Ext W z ∧ Dg z xb d) (fun z hz => hz.1) (Stable.and (Ext.stable W) (fun y z h k => Dg.bel h k)) ⟨E1.out, X1.out⟩ ?_
        (try simp only [Act.put])
        refine anyU_one 0 3 _ rfl rfl (by kernel_rfl) ?_
        intro u1 hu
        go_wp2_with fail
        change ∃ C' : World → Prop, _ ∧ _ ∧ _ ∧ anyU _ _ _ _ _ _ 3 _ _ _
        have hE : Ext W u1 := hu.1
        have lw := Below.size hE
        have O0 := Lib.hid (show OwnR (u1.alloc (.cells #[] 25)) W.heap.size (.slice (some ⟨u1.heap.size, 0, none⟩) 0 0) 0 [] from ownR_base (World.ownsRow_made u1 #[] 0 (Nat.le_refl _) (by unfold maxLen; omega) rfl) lw)
        have E0 := Lib.hid (Ext.trans hE (bel_alloc1 u1 (.cells #[] 25)))
        have X0 := Lib.hid (hu.2.alloc (.cells #[] 25))
        have ne0 : xb ≠ u1.heap.size := by have := hu.2.lt; omega
        generalize World.alloc u1 _ = u2 at O0 E0 X0 ⊢
        generalize u1.heap.size = eb at O0 ne0 ⊢
        clear hu hE lw
        refine anchorF (fun z => Ext W z ∧ OwnR z W.heap.size (.slice (some ⟨eb, 0, none⟩) 0 0) 0 [] ∧ Dg z xb d) (fun z hz => hz.1) (Stable.and (Ext.stable W) (Stable.and (fun y z h k => ownR_below h k) (fun y z h k => Dg.bel h k))) ⟨E0.out, O0.out, X0.out⟩ ?_
        (try simp only [Act.put])
        refine anyU_one 4 2 _ rfl rfl (by kernel_rfl) ?_
        intro u5 hu
        have hE : Ext W u5 := hu.1
        have lw5 := Below.size hE
        refine list_appP rfl (.tmp 21) (.tmp 24) rfl W.heap.size (.slice (some ⟨eb, 0, none⟩) 0 0) 0 [] rfl hu.2.1 (some ad) 0 c [] rfl (fun h => by cases h) rfl (fun a ha j u hu => by simp [bv] at hu) (by omega) lw5 ?_
        intro v1 u6 o1 g1
        change ∃ C' : World → Prop, _ ∧ _ ∧ _ ∧ anyU _ _ _ _ _ _ 2 _ _ _
        have O2 := Lib.hid (show OwnR u6 W.heap.size v1 0 [] by simpa using o1)
        have E2 := Lib.hid (show Ext W u6 from Below.trans hE (gr_belowS g1 lw5 (fun q hq => by cases hq; exact (World.ownsRow.lt hu.2.1 eb rfl).1)))
        have X2 := Lib.hid (show Dg u6 xb d from ⟨(g1.block xb hu.2.2.lt (fun e => by injection e with e; exact ne0 e)).trans hu.2.2.1, hu.2.2.2⟩)
        clear hu hE o1 g1
        refine anchorF (fun z => Ext W z ∧ OwnR z W.heap.size v1 0 [] ∧ Dg z xb d) (fun z hz => hz.1) (Stable.and (Ext.stable W) (Stable.and (fun y z h k => ownR_below h k) (fun y z h k => Dg.bel h k))) ⟨E2.out, O2.out, X2.out⟩ ?_
        (try simp only [Act.put])
        refine anyU_tail 7 [8] rfl rfl (by decide) (by kernel_rfl) ?_
        intro u7 hu7
        simp only [Act.put, List.filterMap_cons, List.filterMap_nil, List.getElem?_cons_succ, List.getElem?_cons_zero]
        have O7 := Lib.hid hu7.2.1
        have X7 := Lib.hid hu7.2.2
        have E7 := Lib.hid hu7.1
        have lw7 := Below.size E7.out
        clear hu7
        refine (list_appP rfl (.tmp 25) (.tmp 27) rfl W.heap.size v1 0 [] rfl O7.out (some ⟨xb, 0, none⟩) 1 1 d rfl (fun h => by cases h) (by rw [X7.out.2]) (fun a ha => by injection ha with ha; subst ha; exact cells_of X7.out.bytes) (by omega) lw7 ?_)
        intro v2 u8 o8 g8
        have O8 := Lib.hid o8
        have E8 := Lib.hid (show Ext W u8 from Below.trans E7.out (gr_belowS g8 lw7 (fun q hq => (World.ownsRow.lt O7.out q hq).1)))
        have lw8 := Below.size E8.out
        clear o8 g8 O7 X7
        go_upto_region 5 with fail
        go_wp2_with (at_builtin; refine list_appP rfl (.tmp 29) (.tmp 32) rfl W.heap.size v2 1 (d) rfl O8.out (some (ad.add (0 * 32))) 0 c [] rfl (fun h => by cases h) rfl (fun a ha j u hu => by simp [bv] at hu) (by omega) lw8 ?_)
        intro v3 u9 o9 g9
        have O9 := Lib.hid o9
        have B9 := Lib.hid (bel_trans B4.out (show Ext W u9 from Below.trans E8.out (gr_belowS g9 lw8 (fun q hq => (World.ownsRow.lt O8.out q hq).1))))
        clear o9 g9
        go_wp2_with fail
        go_ret
        refine ⟨v3, rfl, ?_, B9.out⟩
        exact ownR_base (by simpa using O9.out) B4.out.size
end Go.Proofs.YtcedmiojmepioaaGreatDoor
