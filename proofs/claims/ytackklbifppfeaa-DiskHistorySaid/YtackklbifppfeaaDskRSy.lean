/- The reference's Sync. -/
import Derived.Test.YtackklbifppfeaaDskSyA
import Derived.Deep.DeepCutAuto
namespace Go.Proofs.Ytackklbifppfeaa
open Go.RowKit
set_option linter.unusedVariables false
set_option linter.unusedSimpArgs false

theorem rowS_len (l : List Rw) : (rowS l).length = l.length := by
  induction l with
  | nil => rfl
  | cons a l ih => rw [rowS_cons, List.length_append, ih]; simp [cellsS]; omega
theorem rowS_map (l : List Rw) : rowS l = l.map Rw.v := by
  induction l with
  | nil => rfl
  | cons a l ih => rw [rowS_cons, ih]; rfl
theorem ownS_empty (w : World) (B : Nat) (h : B ≤ w.heap.size) : OwnS (w.alloc (.cells #[] 35)) B (.slice (some ⟨w.heap.size, 0, none⟩) 0 0) [] :=
  World.ownsRow_made w #[] 0 h (by unfold maxLen; omega) rfl
theorem appSs {ops : Array Oper} {rest : List Oper} {o : Oper} {a : Act} {w : World} {Q : Exit → Act → World → Prop} (hgd : o.guard = none) (s x : Operand)
    (ho : o.op = .call { callee := .builtin .append, args := #[s, x], argTypes := #[22, 22] }) (B : Nat) (v : Value) (l : List Rw) (hs : a.eval s = v) (hown : OwnS w B v l)
    (p : Option Addr) (n cap : Nat) (rs : List Rw) (hx : a.eval x = .slice p n cap) (hz : SecsV w p n rs) (h0 : 0 < n) (hlen : l.length + n ≤ 1000000) (hB : B ≤ w.heap.size)
    (h : ∀ v' w', OwnS w' B v' (l ++ rs) → w.grownBy w' v.ownBlock → wpList Try.prog ops Q rest (a.put o.dst v') w') : wpList Try.prog ops Q (o :: rest) a w := by
  obtain ⟨i0, hi, hz0, hz1, hz2⟩ := info_parts infoS
  have hn := hz.1
  obtain ⟨ad, rfl, hsrc⟩ := secs_src hz (by rw [List.length_map]; omega)
  refine wpList_append_own _ hgd s x 22 ho B 35 i0 (.slice none 0 0) 1 24 Try.underlying22 hi hz0 hz1 hz2 rfl (by decide) v l.length (rowS l) hs hown ad n cap (rs.map Rw.v) hx (by rw [List.length_map]; omega) hsrc (rows_one rs) (by unfold maxLen; omega) (by omega) hB ?_
  intro v' w' h1 h2 _
  refine h v' w' ?_ h2
  unfold OwnS
  rw [List.length_append, rowS_map, List.map_append, ← hn, ← rowS_map l]
  exact h1
theorem bel_grownS {w0 w w' : World} {B : Nat} {v : Value} {l : List Rw} (k : Below B w0 w) (ho : OwnS w B v l) (hg : w.grownBy w' v.ownBlock) (hB : B ≤ w.heap.size) : Below B w0 w' :=
  k.trans ⟨hg.os, hg.tape, hg.output, hg.size, fun i hi => hg.block i (by omega) (by intro e; have := (World.ownsRow.lt ho) i e.symm; omega)⟩
theorem OwnS.rows {w : World} {B : Nat} {v : Value} {l : List Rw} (h : OwnS w B v l) (h0 : 0 < l.length) : ∃ g cap, v = .slice (some ⟨g, 0, none⟩) l.length cap ∧ l.length ≤ cap ∧ cap ≤ 9223372036854775807 ∧ B ≤ g ∧ RowsIn w g l := by
  have h' := h
  obtain ⟨g, cap, hv, h1, h2, h3, h4, h5⟩ := h.slice h0
  refine ⟨g, cap, hv, h1, by unfold maxLen at h2; omega, h3, h4, fun j hj => ⟨by have := h5 j hj; rwa [Nat.zero_add] at this, ?_⟩⟩
  obtain ⟨_, ⟨e, _⟩ | ⟨g', cap', cur, e, _, hg, _⟩⟩ := h'
  · rw [hv] at e; cases e
  · rw [hv] at e; simp at e
    obtain ⟨rfl, rfl⟩ := e
    simp [World.frozen?, hg]
theorem own_ne2 {w : World} {B b : Nat} {v : Value} {l : List Rw} {c : Array Value} (h : OwnS w B v l) (k : Blk w b c 25) : v.ownBlock ≠ some b := by
  obtain ⟨h1, ⟨rfl, h2⟩ | ⟨g, cap, cur, rfl, hBg, hg, hn, hm, hs, ht⟩⟩ := h
  · intro e; cases e
  · intro e
    have e2 : g = b := by simpa [Value.ownBlock] using e
    subst e2
    have := hg.symm.trans k
    simp at this
theorem run_chk {left : Int} {st : Bool} {rs : List Rw} {ws : List Wt} (h : runB left st rs ws = true) : chkB left rs ws = true := by
  unfold runB at h
  simp only [Bool.and_eq_true] at h
  exact h.1
def SyA (W : World) (b : Nat) (y : World) : Prop := OwnS y W.heap.size (.slice (some ⟨b, 0, none⟩) 0 0) []
def SyR (W : World) (g n c : Nat) (rs : List Rw) (y : World) : Prop := OwnS y W.heap.size (.slice (some ⟨g, 0, none⟩) n c) rs
def SyD (W : World) (b : Nat) (y : World) : Prop := Blk y b #[.slice none 0 0, .slice none 0 0, .int .i64 0, .bool false] 25 ∧ W.heap.size ≤ b
theorem syA_st (W : World) (b : Nat) : Stable (SyA W b) := fun u u' h k => OwnS.below h k
theorem syR_st (W : World) (g n c : Nat) (rs : List Rw) : Stable (SyR W g n c rs) := fun u u' h k => OwnS.below h k
theorem syD_st (W : World) (b : Nat) : Stable (SyD W b) := fun u u' h k => ⟨h.1.below k h.1.lt, h.2⟩
theorem tr_st : Stable (fun _ => True) := fun _ _ _ _ => trivial

set_option maxRecDepth 100000 in
set_option maxHeartbeats 4000000 in
theorem rsync_m1 (pa : Addr) (ps : Option Addr) (ns cs : Nat) (np cp : Nat) (rs : List Rw) (ws : List Wt) (w : World) (hz : Hid (DskV w ps ns (some pa) np (-1) rs ws)) (hq : Hid (runB (-1) false rs ws = true)) (hp1 : np ≤ cp) (hp2 : cp ≤ 9223372036854775807) :
    Calls Try.prog 24 #[.agg (dskC ps ns cs (some pa) np cp (-1) false)] w fun e w' => IsSyn w.heap.size ns rs ws (-1) w' e ∧ Below w.heap.size w w' := by
  have V0 := Lib.hid (Blk.new w (dskC ps ns cs (some pa) np cp (-1) false) 25)
  have h1 := Lib.hid (bel_alloc1 w (.cells (dskC ps ns cs (some pa) np cp (-1) false) 25))
  have VW := Lib.hid (V0.out.alloc (.cells #[.slice none 0 0, .slice none 0 0, .int .i64 0, .bool false] 25))
  have ZW := Lib.hid (Blk.new (w.alloc (.cells (dskC ps ns cs (some pa) np cp (-1) false) 25)) #[.slice none 0 0, .slice none 0 0, .int .i64 0, .bool false] 25)
  have h2 := Lib.hid (h1.out.alloc h1.out.size (.cells #[.slice none 0 0, .slice none 0 0, .int .i64 0, .bool false] 25))
  have H0 := Lib.hid (hz.out.below h2.out)
  have m1 := hz.out.1.2.1
  have m2 := hz.out.2.1.2.1
  obtain ⟨N, hN⟩ : ∃ N, (w.alloc (.cells (dskC ps ns cs (some pa) np cp (-1) false) 25)).heap.size = N := ⟨_, rfl⟩
  have hNe : N = w.heap.size + 1 := by rw [← hN]; simp
  rw [hN] at ZW
  subst hNe
  clear hN
  have HC := Lib.hid (chk_yes (run_chk hq.out))
  have HNs := Lib.hid hz.out.1.1
  have HNp := Lib.hid hz.out.2.1.1
  have HV := Lib.hid (run_facts hq.out)
  have hns : ns ≤ 4096 ∧ 1 ≤ ns := by have := HV.out.1; have := HNs.out; omega
  go_enter Try.func24, Try.ntmps24
  go_wp2_with fail
  refine (rcheck_any ps ns cs (some pa) np cp (-1) false rs ws _ H0).mono ?_; rintro e w1 ⟨rfl, hb⟩
  have V1 := Lib.hid (VW.out.below hb VW.out.lt)
  have Z1 := Lib.hid (ZW.out.below hb ZW.out.lt)
  have B1 := Lib.hid (h2.out.trans (hb.mono h2.out.size)); clear hb
  obtain ⟨c0, c1, c2, c3, lb⟩ := blk4_facts V1.out
  rw [HC.out]
  have SX := Lib.hid (hz.out.1.below B1.out)
  have hw1 : w.heap.size + 1 < w1.heap.size := Z1.out.lt
  go_upto_region 7 with fail
  go_cut [6] (fun s6 wx => ∃ x g c, s6 = .pointer (some ⟨x, 0, none⟩) ∧ Hid (Blk wx x (dskC (some ⟨g, 0, none⟩) ns c none 0 0 (-1) false) 25 ∧ RowsIn wx g rs ∧ ns ≤ c ∧ c ≤ 9223372036854775807 ∧ g ≠ x ∧ w1.heap.size ≤ x ∧ w1.heap.size ≤ g ∧ Below w1.heap.size w1 wx))
  case first =>
    refine wp_region_any (by kernel_rfl) ?_
    change wpAny _ _ _ _ _ _ _ (World.drew _)
    generalize hWD : World.drew _ = W
    have VX := Lib.hid (show Blk W w.heap.size (dskC ps ns cs (some pa) np cp (-1) false) 25 by rw [← hWD]; exact V1.out)
    have EW := Lib.hid (show Below w1.heap.size w1 W by rw [← hWD]; exact (Below.refl _ _).drew)
    clear hWD
    refine region_U (D := Ext W) (fun y => Ext W y ∧ (fun _ => True) y ∧ (fun _ => True) y) [8] ⟨Ext.refl W, trivial, trivial⟩ ?_
    refine anyU_takeD (i := 1) (v := .pointer (some ⟨w.heap.size, 0, none⟩)) 33 rfl rfl (by kernel_rfl) (by kernel_rfl) (by kernel_rfl) (fun _ _ _ h => h) (by kernel_rfl) ((Ext.stable W).and (Stable.and tr_st tr_st)) (fun y hy => hy.1) (yieldsU_val rfl (fun u hu => by go_simp)) ?_
    refine anyU_takeD (i := 2) (v := .slice ps ns cs) 34 rfl rfl (by kernel_rfl) (by kernel_rfl) (by kernel_rfl) (fun _ _ _ h => h) (by kernel_rfl) ((Ext.stable W).and (Stable.and tr_st tr_st)) (fun y hy => hy.1) (yieldsU_val rfl (fun u hu => by have c := (VX.out.below hu VX.out.lt).cell 0; go_simp)) ?_
    refine anyU_takeD (i := 4) (v := .pointer (some ⟨w.heap.size, 2, none⟩)) 36 rfl rfl (by kernel_rfl) (by kernel_rfl) (by kernel_rfl) (fun _ _ _ h => h) (by kernel_rfl) ((Ext.stable W).and (Stable.and tr_st tr_st)) (fun y hy => hy.1) (yieldsU_val rfl (fun u hu => by go_simp)) ?_
    refine anyU_takeD (i := 5) (v := .int .i64 (-1)) 37 rfl rfl (by kernel_rfl) (by kernel_rfl) (by kernel_rfl) (fun _ _ _ h => h) (by kernel_rfl) ((Ext.stable W).and (Stable.and tr_st tr_st)) (fun y hy => hy.1) (yieldsU_val rfl (fun u hu => by have c := (VX.out.below hu VX.out.lt).cell 2; simp at c; go_simp)) ?_
    simp only [Act.put, List.setIfInBounds_toArray, List.set_cons_succ, List.set_cons_zero]
    refine anyU_two 0 7 4 _ _ rfl rfl rfl rfl (by kernel_rfl) ?a07 ?b07
    case a07 =>
      intro u hu
      go_wp2_with fail
      change ∃ C' : World → Prop, _ ∧ _ ∧ _ ∧ anyU _ _ _ _ _ _ 4 _ _ _
      have hb1 : Below u.heap.size u (u.alloc (.cells #[] 35)) := bel_alloc1 u _
      have Y1 := Lib.hid (show OwnS _ W.heap.size _ [] from ownS_empty u W.heap.size hu.1.size)
      have E1 := Lib.hid (Ext.trans hu.1 hb1)
      have D1 := Lib.hid (tr_st _ _ hu.2.2 hb1)
      generalize World.alloc u _ = u1 at Y1 E1 D1 hb1 ⊢
      generalize u.heap.size = bb at Y1 ⊢
      clear hu hb1
      refine anchorF (fun y => Ext W y ∧ (SyA W bb) y ∧ (fun _ => True) y) (fun y hy => hy.1) ((Ext.stable W).and (Stable.and (syA_st W bb) tr_st)) ⟨E1.out, Y1.out, D1.out⟩ ?_
      (try simp only [Act.put])
      clear E1 Y1 D1
      refine anyU_two 3 7 3 _ _ rfl rfl rfl rfl (by kernel_rfl) ?a37 ?b37
      case a37 =>
        intro u hu
        refine appSs rfl (.tmp 32) (.tmp 34) rfl W.heap.size (.slice (some ⟨bb, 0, none⟩) 0 0) [] rfl hu.2.1 ps ns cs rs rfl (SX.out.below (EW.out.trans (Below.mono hu.1 EW.out.size))) (by omega) (by simp; omega) hu.1.size ?_
        intro v3 u1 o3 g3
        have E1 := Lib.hid (show Ext W u1 from bel_grownS hu.1 hu.2.1 g3 hu.1.size)
        have D1 := Lib.hid (show (fun _ => True) u1 from trivial)
        have o3' : OwnS u1 W.heap.size v3 rs := o3
        clear g3 hu
        obtain ⟨g, cg, hv3, _, _, _, _⟩ := o3'.rows (by rw [← HNs.out]; omega)
        rw [← HNs.out] at hv3
        subst hv3
        have Y1 := Lib.hid (show SyR W g ns cg rs u1 from o3')
        clear o3 o3'
        go_wp2_with fail
        change ∃ C' : World → Prop, _ ∧ _ ∧ _ ∧ anyU _ _ _ _ _ _ 3 _ _ _
        refine anchorF (fun y => Ext W y ∧ (SyR W g ns cg rs) y ∧ (fun _ => True) y) (fun y hy => hy.1) ((Ext.stable W).and (Stable.and (syR_st W g ns cg rs) tr_st)) ⟨E1.out, Y1.out, D1.out⟩ ?_
        (try simp only [Act.put])
        clear E1 Y1 D1
        refine anyU_takeD (i := 6) (v := .agg (dskC (some ⟨g, 0, none⟩) ns cg none 0 0 (-1) false)) 38 rfl rfl (by kernel_rfl) (by kernel_rfl) (by kernel_rfl) (fun _ _ _ h => h) (by kernel_rfl) ((Ext.stable W).and (Stable.and (syR_st W g ns cg rs) tr_st)) (fun y hy => hy.1) (yieldsU_val rfl (fun u hu => by go_simp)) ?_
        refine anyU_one 7 1 _ rfl rfl (by kernel_rfl) ?_
        intro u hu
        go_wp2_with fail
        change ∃ C' : World → Prop, _ ∧ _ ∧ _ ∧ anyU _ _ _ _ _ _ 1 _ _ _
        have hb1 : Below u.heap.size u (u.alloc (.cells #[.slice none 0 0, .slice none 0 0, .int .i64 0, .bool false] 25)) := bel_alloc1 u _
        have Y1 := Lib.hid (show SyD W u.heap.size _ from ⟨Blk.new u #[.slice none 0 0, .slice none 0 0, .int .i64 0, .bool false] 25, hu.1.size⟩)
        have E1 := Lib.hid (Ext.trans hu.1 hb1)
        have D1 := Lib.hid ((syR_st W g ns cg rs) _ _ hu.2.1 hb1)
        generalize World.alloc u _ = u1 at Y1 E1 D1 hb1 ⊢
        generalize u.heap.size = b6 at Y1 ⊢
        clear hu hb1
        refine anchorF (fun y => Ext W y ∧ (SyR W g ns cg rs) y ∧ (SyD W b6) y) (fun y hy => hy.1) ((Ext.stable W).and (Stable.and (syR_st W g ns cg rs) (syD_st W b6))) ⟨E1.out, D1.out, Y1.out⟩ ?_
        (try simp only [Act.put])
        clear E1 Y1 D1
        refine anyU_tail 8 [] rfl rfl (by decide) (by kernel_rfl) ?_
        intro u2 hu2
        simp only [Act.put, List.filterMap_cons, List.filterMap_nil, List.getElem?_cons_succ, List.getElem?_cons_zero]
        have b0 := hu2.2.2.1
        obtain ⟨d0, d1, d2, d3, ld⟩ := blk4_facts b0
        have f0 := b0.frozen 0; have f1 := b0.frozen 1; have f2 := b0.frozen 2; have f3 := b0.frozen 3
        obtain ⟨g', cg', hg, hg1, hg2, hg3, hg4⟩ := OwnS.rows hu2.2.1 (by rw [← HNs.out]; omega)
        rw [← HNs.out] at hg hg1
        simp at hg
        obtain ⟨rfl, rfl⟩ := hg
        have hne : g ≠ b6 := fun e => own_ne2 hu2.2.1 b0 (by rw [← e]; rfl)
        have XB := ((((b0.set 0 (.slice (some ⟨g, 0, none⟩) ns cg)).set 1 (.slice none 0 0)).set 2 (.int .i64 (-1))).set 3 (.bool false))
        have XR := ((((hg4.other (b' := b6) (o := 0) (v := .slice (some ⟨g, 0, none⟩) ns cg) hne).other (b' := b6) (o := 1) (v := .slice none 0 0) hne).other (b' := b6) (o := 2) (v := .int .i64 (-1)) hne).other (b' := b6) (o := 3) (v := .bool false) hne)
        have XE := ((((Below.setCell hu2.1 (p := ⟨b6, 0, none⟩) hu2.2.2.2 (.slice (some ⟨g, 0, none⟩) ns cg)).setCell (p := ⟨b6, 1, none⟩) hu2.2.2.2 (.slice none 0 0)).setCell (p := ⟨b6, 2, none⟩) hu2.2.2.2 (.int .i64 (-1))).setCell (p := ⟨b6, 3, none⟩) hu2.2.2.2 (.bool false))
        have hb6 := hu2.2.2.2
        clear hu2
        go_wp2_with fail
        go_meet
        exact ⟨b6, g, cg, rfl, Lib.hid ⟨XB, XR, hg1, hg2, hne, Nat.le_trans EW.out.size hb6, Nat.le_trans EW.out.size hg3, EW.out.trans (Below.mono XE EW.out.size)⟩⟩
      case b37 =>
        intro u hu
        go_wp2_with fail
        change ∃ C' : World → Prop, _ ∧ _ ∧ _ ∧ anyU _ _ _ _ _ _ 3 _ _ _
        have hb1 : Below u.heap.size u (u.alloc (.cells #[.slice none 0 0, .slice none 0 0, .int .i64 0, .bool false] 25)) := bel_alloc1 u _
        have Y1 := Lib.hid (show SyD W u.heap.size _ from ⟨Blk.new u #[.slice none 0 0, .slice none 0 0, .int .i64 0, .bool false] 25, hu.1.size⟩)
        have E1 := Lib.hid (Ext.trans hu.1 hb1)
        have D1 := Lib.hid ((syA_st W bb) _ _ hu.2.1 hb1)
        generalize World.alloc u _ = u1 at Y1 E1 D1 hb1 ⊢
        generalize u.heap.size = b6 at Y1 ⊢
        clear hu hb1
        refine anchorF (fun y => Ext W y ∧ (SyA W bb) y ∧ (SyD W b6) y) (fun y hy => hy.1) ((Ext.stable W).and (Stable.and (syA_st W bb) (syD_st W b6))) ⟨E1.out, D1.out, Y1.out⟩ ?_
        (try simp only [Act.put])
        clear E1 Y1 D1
        refine anyU_one 3 2 _ rfl rfl (by kernel_rfl) ?_
        intro u hu
        refine appSs rfl (.tmp 32) (.tmp 34) rfl W.heap.size (.slice (some ⟨bb, 0, none⟩) 0 0) [] rfl hu.2.1 ps ns cs rs rfl (SX.out.below (EW.out.trans (Below.mono hu.1 EW.out.size))) (by omega) (by simp; omega) hu.1.size ?_
        intro v3 u1 o3 g3
        have E1 := Lib.hid (show Ext W u1 from bel_grownS hu.1 hu.2.1 g3 hu.1.size)
        have D1 := Lib.hid (show (SyD W b6) u1 from ⟨(g3.block _ hu.2.2.1.lt (fun e => own_ne2 hu.2.1 hu.2.2.1 e.symm)).trans hu.2.2.1, hu.2.2.2⟩)
        have o3' : OwnS u1 W.heap.size v3 rs := o3
        clear g3 hu
        obtain ⟨g, cg, hv3, _, _, _, _⟩ := o3'.rows (by rw [← HNs.out]; omega)
        rw [← HNs.out] at hv3
        subst hv3
        have Y1 := Lib.hid (show SyR W g ns cg rs u1 from o3')
        clear o3 o3'
        go_wp2_with fail
        change ∃ C' : World → Prop, _ ∧ _ ∧ _ ∧ anyU _ _ _ _ _ _ 2 _ _ _
        refine anchorF (fun y => Ext W y ∧ (SyR W g ns cg rs) y ∧ (SyD W b6) y) (fun y hy => hy.1) ((Ext.stable W).and (Stable.and (syR_st W g ns cg rs) (syD_st W b6))) ⟨E1.out, Y1.out, D1.out⟩ ?_
        (try simp only [Act.put])
        clear E1 Y1 D1
        refine anyU_takeD (i := 6) (v := .agg (dskC (some ⟨g, 0, none⟩) ns cg none 0 0 (-1) false)) 38 rfl rfl (by kernel_rfl) (by kernel_rfl) (by kernel_rfl) (fun _ _ _ h => h) (by kernel_rfl) ((Ext.stable W).and (Stable.and (syR_st W g ns cg rs) (syD_st W b6))) (fun y hy => hy.1) (yieldsU_val rfl (fun u hu => by go_simp)) ?_
        refine anyU_tail 8 [] rfl rfl (by decide) (by kernel_rfl) ?_
        intro u2 hu2
        simp only [Act.put, List.filterMap_cons, List.filterMap_nil, List.getElem?_cons_succ, List.getElem?_cons_zero]
        have b0 := hu2.2.2.1
        obtain ⟨d0, d1, d2, d3, ld⟩ := blk4_facts b0
        have f0 := b0.frozen 0; have f1 := b0.frozen 1; have f2 := b0.frozen 2; have f3 := b0.frozen 3
        obtain ⟨g', cg', hg, hg1, hg2, hg3, hg4⟩ := OwnS.rows hu2.2.1 (by rw [← HNs.out]; omega)
        rw [← HNs.out] at hg hg1
        simp at hg
        obtain ⟨rfl, rfl⟩ := hg
        have hne : g ≠ b6 := fun e => own_ne2 hu2.2.1 b0 (by rw [← e]; rfl)
        have XB := ((((b0.set 0 (.slice (some ⟨g, 0, none⟩) ns cg)).set 1 (.slice none 0 0)).set 2 (.int .i64 (-1))).set 3 (.bool false))
        have XR := ((((hg4.other (b' := b6) (o := 0) (v := .slice (some ⟨g, 0, none⟩) ns cg) hne).other (b' := b6) (o := 1) (v := .slice none 0 0) hne).other (b' := b6) (o := 2) (v := .int .i64 (-1)) hne).other (b' := b6) (o := 3) (v := .bool false) hne)
        have XE := ((((Below.setCell hu2.1 (p := ⟨b6, 0, none⟩) hu2.2.2.2 (.slice (some ⟨g, 0, none⟩) ns cg)).setCell (p := ⟨b6, 1, none⟩) hu2.2.2.2 (.slice none 0 0)).setCell (p := ⟨b6, 2, none⟩) hu2.2.2.2 (.int .i64 (-1))).setCell (p := ⟨b6, 3, none⟩) hu2.2.2.2 (.bool false))
        have hb6 := hu2.2.2.2
        clear hu2
        go_wp2_with fail
        go_meet
        exact ⟨b6, g, cg, rfl, Lib.hid ⟨XB, XR, hg1, hg2, hne, Nat.le_trans EW.out.size hb6, Nat.le_trans EW.out.size hg3, EW.out.trans (Below.mono XE EW.out.size)⟩⟩
    case b07 =>
      intro u hu
      go_wp2_with fail
      change ∃ C' : World → Prop, _ ∧ _ ∧ _ ∧ anyU _ _ _ _ _ _ 4 _ _ _
      have hb1 : Below u.heap.size u (u.alloc (.cells #[.slice none 0 0, .slice none 0 0, .int .i64 0, .bool false] 25)) := bel_alloc1 u _
      have Y1 := Lib.hid (show SyD W u.heap.size _ from ⟨Blk.new u #[.slice none 0 0, .slice none 0 0, .int .i64 0, .bool false] 25, hu.1.size⟩)
      have E1 := Lib.hid (Ext.trans hu.1 hb1)
      have D1 := Lib.hid (tr_st _ _ hu.2.1 hb1)
      generalize World.alloc u _ = u1 at Y1 E1 D1 hb1 ⊢
      generalize u.heap.size = b6 at Y1 ⊢
      clear hu hb1
      refine anchorF (fun y => Ext W y ∧ (fun _ => True) y ∧ (SyD W b6) y) (fun y hy => hy.1) ((Ext.stable W).and (Stable.and tr_st (syD_st W b6))) ⟨E1.out, D1.out, Y1.out⟩ ?_
      (try simp only [Act.put])
      clear E1 Y1 D1
      refine anyU_one 0 3 _ rfl rfl (by kernel_rfl) ?_
      intro u hu
      go_wp2_with fail
      change ∃ C' : World → Prop, _ ∧ _ ∧ _ ∧ anyU _ _ _ _ _ _ 3 _ _ _
      have hb1 : Below u.heap.size u (u.alloc (.cells #[] 35)) := bel_alloc1 u _
      have Y1 := Lib.hid (show OwnS _ W.heap.size _ [] from ownS_empty u W.heap.size hu.1.size)
      have E1 := Lib.hid (Ext.trans hu.1 hb1)
      have D1 := Lib.hid ((syD_st W b6) _ _ hu.2.2 hb1)
      generalize World.alloc u _ = u1 at Y1 E1 D1 hb1 ⊢
      generalize u.heap.size = bb at Y1 ⊢
      clear hu hb1
      refine anchorF (fun y => Ext W y ∧ (SyA W bb) y ∧ (SyD W b6) y) (fun y hy => hy.1) ((Ext.stable W).and (Stable.and (syA_st W bb) (syD_st W b6))) ⟨E1.out, Y1.out, D1.out⟩ ?_
      (try simp only [Act.put])
      clear E1 Y1 D1
      refine anyU_one 3 2 _ rfl rfl (by kernel_rfl) ?_
      intro u hu
      refine appSs rfl (.tmp 32) (.tmp 34) rfl W.heap.size (.slice (some ⟨bb, 0, none⟩) 0 0) [] rfl hu.2.1 ps ns cs rs rfl (SX.out.below (EW.out.trans (Below.mono hu.1 EW.out.size))) (by omega) (by simp; omega) hu.1.size ?_
      intro v3 u1 o3 g3
      have E1 := Lib.hid (show Ext W u1 from bel_grownS hu.1 hu.2.1 g3 hu.1.size)
      have D1 := Lib.hid (show (SyD W b6) u1 from ⟨(g3.block _ hu.2.2.1.lt (fun e => own_ne2 hu.2.1 hu.2.2.1 e.symm)).trans hu.2.2.1, hu.2.2.2⟩)
      have o3' : OwnS u1 W.heap.size v3 rs := o3
      clear g3 hu
      obtain ⟨g, cg, hv3, _, _, _, _⟩ := o3'.rows (by rw [← HNs.out]; omega)
      rw [← HNs.out] at hv3
      subst hv3
      have Y1 := Lib.hid (show SyR W g ns cg rs u1 from o3')
      clear o3 o3'
      go_wp2_with fail
      change ∃ C' : World → Prop, _ ∧ _ ∧ _ ∧ anyU _ _ _ _ _ _ 2 _ _ _
      refine anchorF (fun y => Ext W y ∧ (SyR W g ns cg rs) y ∧ (SyD W b6) y) (fun y hy => hy.1) ((Ext.stable W).and (Stable.and (syR_st W g ns cg rs) (syD_st W b6))) ⟨E1.out, Y1.out, D1.out⟩ ?_
      (try simp only [Act.put])
      clear E1 Y1 D1
      refine anyU_takeD (i := 6) (v := .agg (dskC (some ⟨g, 0, none⟩) ns cg none 0 0 (-1) false)) 38 rfl rfl (by kernel_rfl) (by kernel_rfl) (by kernel_rfl) (fun _ _ _ h => h) (by kernel_rfl) ((Ext.stable W).and (Stable.and (syR_st W g ns cg rs) (syD_st W b6))) (fun y hy => hy.1) (yieldsU_val rfl (fun u hu => by go_simp)) ?_
      refine anyU_tail 8 [] rfl rfl (by decide) (by kernel_rfl) ?_
      intro u2 hu2
      simp only [Act.put, List.filterMap_cons, List.filterMap_nil, List.getElem?_cons_succ, List.getElem?_cons_zero]
      have b0 := hu2.2.2.1
      obtain ⟨d0, d1, d2, d3, ld⟩ := blk4_facts b0
      have f0 := b0.frozen 0; have f1 := b0.frozen 1; have f2 := b0.frozen 2; have f3 := b0.frozen 3
      obtain ⟨g', cg', hg, hg1, hg2, hg3, hg4⟩ := OwnS.rows hu2.2.1 (by rw [← HNs.out]; omega)
      rw [← HNs.out] at hg hg1
      simp at hg
      obtain ⟨rfl, rfl⟩ := hg
      have hne : g ≠ b6 := fun e => own_ne2 hu2.2.1 b0 (by rw [← e]; rfl)
      have XB := ((((b0.set 0 (.slice (some ⟨g, 0, none⟩) ns cg)).set 1 (.slice none 0 0)).set 2 (.int .i64 (-1))).set 3 (.bool false))
      have XR := ((((hg4.other (b' := b6) (o := 0) (v := .slice (some ⟨g, 0, none⟩) ns cg) hne).other (b' := b6) (o := 1) (v := .slice none 0 0) hne).other (b' := b6) (o := 2) (v := .int .i64 (-1)) hne).other (b' := b6) (o := 3) (v := .bool false) hne)
      have XE := ((((Below.setCell hu2.1 (p := ⟨b6, 0, none⟩) hu2.2.2.2 (.slice (some ⟨g, 0, none⟩) ns cg)).setCell (p := ⟨b6, 1, none⟩) hu2.2.2.2 (.slice none 0 0)).setCell (p := ⟨b6, 2, none⟩) hu2.2.2.2 (.int .i64 (-1))).setCell (p := ⟨b6, 3, none⟩) hu2.2.2.2 (.bool false))
      have hb6 := hu2.2.2.2
      clear hu2
      go_wp2_with fail
      go_meet
      exact ⟨b6, g, cg, rfl, Lib.hid ⟨XB, XR, hg1, hg2, hne, Nat.le_trans EW.out.size hb6, Nat.le_trans EW.out.size hg3, EW.out.trans (Below.mono XE EW.out.size)⟩⟩
  case rest =>
    obtain ⟨x, g, c, rfl, HC0⟩ := hcut
    obtain ⟨X5', R5', hcc, hcc2, hgx, hx1, hg1, E5⟩ := HC0.out
    have X5 := Lib.hid X5'
    have R5 := Lib.hid R5'
    have V5 := Lib.hid (V1.out.below E5 V1.out.lt)
    have Z5 := Lib.hid (Z1.out.below E5 Z1.out.lt)
    have B5 := Lib.hid (B1.out.trans (E5.mono B1.out.size))
    clear HC0 X5' R5' E5 c0 c1 c2 c3 lb SX
    go_wp2_with fail
    go_loopw [7] (fun i wr => ∃ k : Nat, k ≤ np ∧ i = .int .i64 k ∧ Hid (RowsIn wr g (setRows rs (ws.take k))) ∧ Hid (Blk wr x (dskC (some ⟨g, 0, none⟩) ns c none 0 0 (-1) false) 25) ∧ Hid (Blk wr (w.heap.size + 1) #[.slice none 0 0, .slice none 0 0, .int .i64 0, .bool false] 25) ∧ Hid (Blk wr w.heap.size (dskC ps ns cs (some pa) np cp (-1) false) 25) ∧ Hid (Below w.heap.size w wr)) (fun i _ => np - (intOf i).toNat)
    case atStart => exact ⟨0, by omega, rfl, Lib.hid (by rw [List.take_zero]; exact R5.out), X5, Z5, V5, B5⟩
    case round =>
      obtain ⟨k, hk, rfl, HR, HXX, HZ, HVx, HB⟩ := hrel
      clear R5 X5 Z5 V5 B5
      by_cases hlt : k < np
      · obtain ⟨b', off, hp, hb', hcell, hcell2, hwt⟩ := (hz.out.2.1.below HB.out).at (k := k) (by omega)
        cases hp
        have HX := Lib.hid (HV.out.2.2.1 (ws.getD k wt0) (getD_mem (by have := HNp.out; omega)))
        have HTK := Lib.hid (show setRows rs (ws.take (k + 1)) = (setRows rs (ws.take k)).set (ws.getD k wt0).pos.toNat (ws.getD k wt0).row by rw [take_snocD ws k wt0 (by have := HNp.out; omega), setRows_snoc])
        obtain ⟨⟨po, ⟨xp, xm, xc, xb⟩⟩, hx⟩ : ∃ y, ws.getD k wt0 = y := ⟨_, rfl⟩
        rw [hx] at hcell hcell2 HX HTK
        dsimp only [Rw.v] at hcell hcell2
        dsimp only at HX HTK
        clear hx hwt
        obtain ⟨j, rfl⟩ : ∃ j : Nat, po = (j : Int) := ⟨po.toNat, by have := HX.out.1.1; omega⟩
        have hj : j < ns := by have := HX.out.1.2; have := HNs.out; omega
        have hxm := HX.out.2
        subst hxm
        have HL := Lib.hid (show (setRows rs (ws.take k)).length = ns by rw [setRows_len, HNs.out])
        have hknp : k < np := by omega
        clear HX
        go_wp2_with fail
        refine wp_region_any (by kernel_rfl) ?_
        change wpAny _ _ _ _ _ _ _ (World.drew _)
        generalize hWD : World.drew _ = W
        have VX := Lib.hid (show Blk W w.heap.size (dskC ps ns cs (some ⟨b', off, none⟩) np cp (-1) false) 25 by rw [← hWD]; exact HVx.out)
        have XX := Lib.hid (show Blk W x (dskC (some ⟨g, 0, none⟩) ns c none 0 0 (-1) false) 25 by rw [← hWD]; exact HXX.out)
        have ZX := Lib.hid (show Blk W (w.heap.size + 1) #[.slice none 0 0, .slice none 0 0, .int .i64 0, .bool false] 25 by rw [← hWD]; exact HZ.out)
        have RX := Lib.hid (show RowsIn W g (setRows rs (ws.take k)) by rw [← hWD]; exact HR.out)
        have EW := Lib.hid (show Below w.heap.size w W by rw [← hWD]; exact HB.out.drew)
        have hcW : W.cell? ⟨b', off + k * 2, none⟩ = some (.int .i64 (j : Int)) := by rw [← hWD]; exact hcell
        have hcW2 : W.cell? ⟨b', off + k * 2 + 1, none⟩ = some (.slice xp 128 xc) := by rw [← hWD]; exact hcell2
        have hbW : b' < W.heap.size := by rw [← hWD]; exact hb'
        have HC1 := Lib.hid (fun u (hu : Ext W u) => (Below.cell hu (p := ⟨b', off + k * 2, none⟩) hbW).trans hcW)
        have HC2 := Lib.hid (fun u (hu : Ext W u) => (Below.cell hu (p := ⟨b', off + k * 2 + 1, none⟩) hbW).trans hcW2)
        clear hWD hcW hcW2 hcell hcell2 HVx HXX HZ HR HB
        have hCD : ∀ u, Ext W u → Ext W u := fun u hu => hu
        refine region_U (D := Ext W) (Ext W) [14, 15] (Ext.refl W) ?_
        refine anyU_takeD (i := 0) (v := .pointer (some ⟨x, 0, none⟩)) 44 rfl rfl (by kernel_rfl) (by kernel_rfl) (by kernel_rfl) (fun _ _ _ h => h) (by kernel_rfl) (Ext.stable _) hCD (yieldsU_val rfl (fun u hu => by go_simp)) ?_
        refine anyU_takeD (i := 1) (v := .slice (some ⟨g, 0, none⟩) ns c) 45 rfl rfl (by kernel_rfl) (by kernel_rfl) (by kernel_rfl) (fun _ _ _ h => h) (by kernel_rfl) (Ext.stable _) hCD (yieldsU_val rfl (fun u hu => by have c1 := (XX.out.below hu XX.out.lt).cell 0; simp at c1; go_simp)) ?_
        refine anyU_takeD (i := 2) (v := .pointer (some ⟨w.heap.size, 1, none⟩)) 46 rfl rfl (by kernel_rfl) (by kernel_rfl) (by kernel_rfl) (fun _ _ _ h => h) (by kernel_rfl) (Ext.stable _) hCD (yieldsU_val rfl (fun u hu => by go_simp)) ?_
        refine anyU_takeD (i := 3) (v := .slice (some ⟨b', off, none⟩) np cp) 47 rfl rfl (by kernel_rfl) (by kernel_rfl) (by kernel_rfl) (fun _ _ _ h => h) (by kernel_rfl) (Ext.stable _) hCD (yieldsU_val rfl (fun u hu => by have c1 := (VX.out.below hu VX.out.lt).cell 1; simp at c1; go_simp)) ?_
        refine anyU_takeD (i := 4) (v := .int .i64 (k : Int)) 48 rfl rfl (by kernel_rfl) (by kernel_rfl) (by kernel_rfl) (fun _ _ _ h => h) (by kernel_rfl) (Ext.stable _) hCD (yieldsU_val rfl (fun u hu => by go_simp)) ?_
        refine anyU_takeD (i := 5) (v := .pointer (some ⟨b', off + k * 2, none⟩)) 49 rfl rfl (by kernel_rfl) (by kernel_rfl) (by kernel_rfl) (fun _ _ _ h => h) (by kernel_rfl) (Ext.stable _) hCD (yieldsU_val rfl (fun u hu => by go_simp)) ?_
        simp only [Act.put, List.setIfInBounds_toArray, List.set_cons_succ, List.set_cons_zero]
        refine anyU_takeD (i := 6) (v := .pointer (some ⟨b', off + k * 2, none⟩)) 50 rfl rfl (by kernel_rfl) (by kernel_rfl) (by kernel_rfl) (fun _ _ _ h => h) (by kernel_rfl) (Ext.stable _) hCD (yieldsU_val rfl (fun u hu => by go_simp)) ?_
        refine anyU_takeD (i := 7) (v := .int .i64 (j : Int)) 51 rfl rfl (by kernel_rfl) (by kernel_rfl) (by kernel_rfl) (fun _ _ _ h => h) (by kernel_rfl) (Ext.stable _) hCD (yieldsU_val rfl (fun u hu => by have c1 := HC1.out u hu; go_simp)) ?_
        refine anyU_takeD (i := 8) (v := .pointer (some ⟨w.heap.size, 1, none⟩)) 52 rfl rfl (by kernel_rfl) (by kernel_rfl) (by kernel_rfl) (fun _ _ _ h => h) (by kernel_rfl) (Ext.stable _) hCD (yieldsU_val rfl (fun u hu => by go_simp)) ?_
        refine anyU_takeD (i := 9) (v := .slice (some ⟨b', off, none⟩) np cp) 53 rfl rfl (by kernel_rfl) (by kernel_rfl) (by kernel_rfl) (fun _ _ _ h => h) (by kernel_rfl) (Ext.stable _) hCD (yieldsU_val rfl (fun u hu => by have c1 := (VX.out.below hu VX.out.lt).cell 1; simp at c1; go_simp)) ?_
        refine anyU_takeD (i := 10) (v := .int .i64 (k : Int)) 54 rfl rfl (by kernel_rfl) (by kernel_rfl) (by kernel_rfl) (fun _ _ _ h => h) (by kernel_rfl) (Ext.stable _) hCD (yieldsU_val rfl (fun u hu => by go_simp)) ?_
        refine anyU_takeD (i := 11) (v := .pointer (some ⟨b', off + k * 2, none⟩)) 55 rfl rfl (by kernel_rfl) (by kernel_rfl) (by kernel_rfl) (fun _ _ _ h => h) (by kernel_rfl) (Ext.stable _) hCD (yieldsU_val rfl (fun u hu => by go_simp)) ?_
        simp only [Act.put, List.setIfInBounds_toArray, List.set_cons_succ, List.set_cons_zero]
        refine anyU_takeD (i := 12) (v := .pointer (some ⟨b', off + k * 2 + 1, none⟩)) 56 rfl rfl (by kernel_rfl) (by kernel_rfl) (by kernel_rfl) (fun _ _ _ h => h) (by kernel_rfl) (Ext.stable _) hCD (yieldsU_val rfl (fun u hu => by go_simp)) ?_
        refine anyU_takeD (i := 13) (v := .slice xp 128 xc) 57 rfl rfl (by kernel_rfl) (by kernel_rfl) (by kernel_rfl) (fun _ _ _ h => h) (by kernel_rfl) (Ext.stable _) hCD (yieldsU_val rfl (fun u hu => by have c1 := HC2.out u hu; go_simp)) ?_
        simp only [Act.put, List.setIfInBounds_toArray, List.set_cons_succ, List.set_cons_zero]
        refine anyU_tail 14 [15] rfl rfl (by decide) (by kernel_rfl) ?_
        intro u2 hu2
        simp only [Act.put, List.filterMap_cons, List.filterMap_nil, List.getElem?_cons_succ, List.getElem?_cons_zero]
        have R2 := Lib.hid (RX.out.below hu2 RX.out.1)
        have X2 := Lib.hid (XX.out.below hu2 XX.out.lt)
        have Z2 := Lib.hid (ZX.out.below hu2 ZX.out.lt)
        have V2 := Lib.hid (VX.out.below hu2 VX.out.lt)
        have B2 := Lib.hid (EW.out.trans (Below.mono hu2 EW.out.size))
        clear hu2
        obtain ⟨rc1, rc2⟩ := R2.out.2 j (by rw [HL.out]; exact hj)
        dsimp only [Rw.v] at rc1
        have rlt := R2.out.1
        go_wp2_with fail
        refine ⟨⟨k + 1, by omega, by go_num, Lib.hid ?_, Lib.hid ?_, Lib.hid ?_, Lib.hid ?_, Lib.hid ?_⟩, ?_⟩
        · rw [HTK.out]
          exact R2.out.set (k := j) (r := ⟨xp, 128, xc, xb⟩) (by rw [HL.out]; exact hj)
        · exact X2.out.other _ _ (by omega)
        · exact Z2.out.other _ _ (by omega)
        · exact V2.out.other _ _ (by omega)
        · exact B2.out.setCell (p := ⟨g, j, none⟩) (by show w.heap.size ≤ g; omega) _
        · simp only [intOf]; omega
      · obtain rfl : k = np := by omega
        obtain ⟨c0, c1, c2, c3, lb⟩ := blk4_facts HXX.out
        obtain ⟨d0, d1, d2, d3, ld⟩ := blk4_facts HZ.out
        have f0 := HZ.out.frozen 0; have f1 := HZ.out.frozen 1; have f2 := HZ.out.frozen 2; have f3 := HZ.out.frozen 3
        have q2 := HXX.out.frozen 2
        go_wp2_with fail
        refine bodyPost_ret (v := .tuple #[.agg (dskC (some ⟨g, 0, none⟩) ns c none 0 0 (-1) false), .int .i64 0]) ?_ rfl ⟨?_, ?_⟩
        · rw [results_cell_tmp rfl]; go_simp
        · have hw0 : ∀ r ∈ setRows rs ws, RwOk w r ∧ r.m = 128 := setRows_all (q := fun r => RwOk w r ∧ r.m = 128) ws rs (fun r hr => ⟨hz.out.1.2.2.1 r hr, HV.out.2.1 r hr⟩) (fun x hx => ⟨(hz.out.2.1.2.2.1 x hx).2, (HV.out.2.2.1 x hx).2⟩)
          have ht : ws.take k = ws := List.take_of_length_le (by have := HNp.out; omega)
          have hR := HR.out
          rw [ht] at hR
          have hs : stopB (-1) ws.length = false := by unfold stopB; have := HNp.out; simp; try omega
          refine isSyn (rows := setRows rs ws) ?_ (by rw [setRows_len, HNs.out]) hns.1 hcc hcc2 (fun r hr => (hw0 r hr).1.below ?_) (fun r hr => (hw0 r hr).2) ?_ ?_ hs (by rw [hs]; rfl) (by omega) (fun b _ q1 q2 => setRows_all (q := fun r => SepR r b) ws rs q1 q2)
          · (iterate 4 (refine RowsIn.other ?_ (by omega))); exact hR
          · (iterate 4 (refine Below.setCell ?_ (by simp <;> omega) _)); exact HB.out
          · unfold synB; rw [hs, setRows_map]; rfl
          · unfold synL; rw [hs]; have := HNp.out; simp; try omega
        · (iterate 4 (refine Below.setCell ?_ (by simp <;> omega) _)); exact HB.out

set_option maxRecDepth 100000 in
set_option maxHeartbeats 4000000 in
theorem rsync_go (lf : Nat) (pa : Addr) (ps : Option Addr) (ns cs : Nat) (np cp : Nat) (rs : List Rw) (ws : List Wt) (w : World) (hz : Hid (DskV w ps ns (some pa) np (lf : Int) rs ws)) (hq : Hid (runB (lf : Int) false rs ws = true)) (hp1 : np ≤ cp) (hp2 : cp ≤ 9223372036854775807) (hlf : np ≤ lf) :
    Calls Try.prog 24 #[.agg (dskC ps ns cs (some pa) np cp (lf : Int) false)] w fun e w' => IsSyn w.heap.size ns rs ws (lf : Int) w' e ∧ Below w.heap.size w w' := by
  have V0 := Lib.hid (Blk.new w (dskC ps ns cs (some pa) np cp (lf : Int) false) 25)
  have h1 := Lib.hid (bel_alloc1 w (.cells (dskC ps ns cs (some pa) np cp (lf : Int) false) 25))
  have VW := Lib.hid (V0.out.alloc (.cells #[.slice none 0 0, .slice none 0 0, .int .i64 0, .bool false] 25))
  have ZW := Lib.hid (Blk.new (w.alloc (.cells (dskC ps ns cs (some pa) np cp (lf : Int) false) 25)) #[.slice none 0 0, .slice none 0 0, .int .i64 0, .bool false] 25)
  have h2 := Lib.hid (h1.out.alloc h1.out.size (.cells #[.slice none 0 0, .slice none 0 0, .int .i64 0, .bool false] 25))
  have H0 := Lib.hid (hz.out.below h2.out)
  have m1 := hz.out.1.2.1
  have m2 := hz.out.2.1.2.1
  obtain ⟨N, hN⟩ : ∃ N, (w.alloc (.cells (dskC ps ns cs (some pa) np cp (lf : Int) false) 25)).heap.size = N := ⟨_, rfl⟩
  have hNe : N = w.heap.size + 1 := by rw [← hN]; simp
  rw [hN] at ZW
  subst hNe
  clear hN
  have HC := Lib.hid (chk_yes (run_chk hq.out))
  have HNs := Lib.hid hz.out.1.1
  have HNp := Lib.hid hz.out.2.1.1
  have HV := Lib.hid (run_facts hq.out)
  have hns : ns ≤ 4096 ∧ 1 ≤ ns := by have := HV.out.1; have := HNs.out; omega
  have hlb : (lf : Int) ≤ 65536 := by have := HV.out.1; omega
  have hlb2 : lf ≤ 65536 := by omega
  have hdl : decide (lf < np) = false := by simp; try omega
  go_enter Try.func24, Try.ntmps24
  go_wp2_with fail
  refine (rcheck_any ps ns cs (some pa) np cp (lf : Int) false rs ws _ H0).mono ?_; rintro e w1 ⟨rfl, hb⟩
  have V1 := Lib.hid (VW.out.below hb VW.out.lt)
  have Z1 := Lib.hid (ZW.out.below hb ZW.out.lt)
  have B1 := Lib.hid (h2.out.trans (hb.mono h2.out.size)); clear hb
  obtain ⟨c0, c1, c2, c3, lb⟩ := blk4_facts V1.out
  rw [HC.out]
  have SX := Lib.hid (hz.out.1.below B1.out)
  have hw1 : w.heap.size + 1 < w1.heap.size := Z1.out.lt
  go_upto_region 7 with fail
  go_cut [6] (fun s6 wx => ∃ x g c, s6 = .pointer (some ⟨x, 0, none⟩) ∧ Hid (Blk wx x (dskC (some ⟨g, 0, none⟩) ns c none 0 0 (lf : Int) false) 25 ∧ RowsIn wx g rs ∧ ns ≤ c ∧ c ≤ 9223372036854775807 ∧ g ≠ x ∧ w1.heap.size ≤ x ∧ w1.heap.size ≤ g ∧ Below w1.heap.size w1 wx))
  case first =>
    refine wp_region_any (by kernel_rfl) ?_
    change wpAny _ _ _ _ _ _ _ (World.drew _)
    generalize hWD : World.drew _ = W
    have VX := Lib.hid (show Blk W w.heap.size (dskC ps ns cs (some pa) np cp (lf : Int) false) 25 by rw [← hWD]; exact V1.out)
    have EW := Lib.hid (show Below w1.heap.size w1 W by rw [← hWD]; exact (Below.refl _ _).drew)
    clear hWD
    refine region_U (D := Ext W) (fun y => Ext W y ∧ (fun _ => True) y ∧ (fun _ => True) y) [8] ⟨Ext.refl W, trivial, trivial⟩ ?_
    refine anyU_takeD (i := 1) (v := .pointer (some ⟨w.heap.size, 0, none⟩)) 33 rfl rfl (by kernel_rfl) (by kernel_rfl) (by kernel_rfl) (fun _ _ _ h => h) (by kernel_rfl) ((Ext.stable W).and (Stable.and tr_st tr_st)) (fun y hy => hy.1) (yieldsU_val rfl (fun u hu => by go_simp)) ?_
    refine anyU_takeD (i := 2) (v := .slice ps ns cs) 34 rfl rfl (by kernel_rfl) (by kernel_rfl) (by kernel_rfl) (fun _ _ _ h => h) (by kernel_rfl) ((Ext.stable W).and (Stable.and tr_st tr_st)) (fun y hy => hy.1) (yieldsU_val rfl (fun u hu => by have c := (VX.out.below hu VX.out.lt).cell 0; go_simp)) ?_
    refine anyU_takeD (i := 4) (v := .pointer (some ⟨w.heap.size, 2, none⟩)) 36 rfl rfl (by kernel_rfl) (by kernel_rfl) (by kernel_rfl) (fun _ _ _ h => h) (by kernel_rfl) ((Ext.stable W).and (Stable.and tr_st tr_st)) (fun y hy => hy.1) (yieldsU_val rfl (fun u hu => by go_simp)) ?_
    refine anyU_takeD (i := 5) (v := .int .i64 (lf : Int)) 37 rfl rfl (by kernel_rfl) (by kernel_rfl) (by kernel_rfl) (fun _ _ _ h => h) (by kernel_rfl) ((Ext.stable W).and (Stable.and tr_st tr_st)) (fun y hy => hy.1) (yieldsU_val rfl (fun u hu => by have c := (VX.out.below hu VX.out.lt).cell 2; simp at c; go_simp)) ?_
    simp only [Act.put, List.setIfInBounds_toArray, List.set_cons_succ, List.set_cons_zero]
    refine anyU_two 0 7 4 _ _ rfl rfl rfl rfl (by kernel_rfl) ?a07 ?b07
    case a07 =>
      intro u hu
      go_wp2_with fail
      change ∃ C' : World → Prop, _ ∧ _ ∧ _ ∧ anyU _ _ _ _ _ _ 4 _ _ _
      have hb1 : Below u.heap.size u (u.alloc (.cells #[] 35)) := bel_alloc1 u _
      have Y1 := Lib.hid (show OwnS _ W.heap.size _ [] from ownS_empty u W.heap.size hu.1.size)
      have E1 := Lib.hid (Ext.trans hu.1 hb1)
      have D1 := Lib.hid (tr_st _ _ hu.2.2 hb1)
      generalize World.alloc u _ = u1 at Y1 E1 D1 hb1 ⊢
      generalize u.heap.size = bb at Y1 ⊢
      clear hu hb1
      refine anchorF (fun y => Ext W y ∧ (SyA W bb) y ∧ (fun _ => True) y) (fun y hy => hy.1) ((Ext.stable W).and (Stable.and (syA_st W bb) tr_st)) ⟨E1.out, Y1.out, D1.out⟩ ?_
      (try simp only [Act.put])
      clear E1 Y1 D1
      refine anyU_two 3 7 3 _ _ rfl rfl rfl rfl (by kernel_rfl) ?a37 ?b37
      case a37 =>
        intro u hu
        refine appSs rfl (.tmp 32) (.tmp 34) rfl W.heap.size (.slice (some ⟨bb, 0, none⟩) 0 0) [] rfl hu.2.1 ps ns cs rs rfl (SX.out.below (EW.out.trans (Below.mono hu.1 EW.out.size))) (by omega) (by simp; omega) hu.1.size ?_
        intro v3 u1 o3 g3
        have E1 := Lib.hid (show Ext W u1 from bel_grownS hu.1 hu.2.1 g3 hu.1.size)
        have D1 := Lib.hid (show (fun _ => True) u1 from trivial)
        have o3' : OwnS u1 W.heap.size v3 rs := o3
        clear g3 hu
        obtain ⟨g, cg, hv3, _, _, _, _⟩ := o3'.rows (by rw [← HNs.out]; omega)
        rw [← HNs.out] at hv3
        subst hv3
        have Y1 := Lib.hid (show SyR W g ns cg rs u1 from o3')
        clear o3 o3'
        go_wp2_with fail
        change ∃ C' : World → Prop, _ ∧ _ ∧ _ ∧ anyU _ _ _ _ _ _ 3 _ _ _
        refine anchorF (fun y => Ext W y ∧ (SyR W g ns cg rs) y ∧ (fun _ => True) y) (fun y hy => hy.1) ((Ext.stable W).and (Stable.and (syR_st W g ns cg rs) tr_st)) ⟨E1.out, Y1.out, D1.out⟩ ?_
        (try simp only [Act.put])
        clear E1 Y1 D1
        refine anyU_takeD (i := 6) (v := .agg (dskC (some ⟨g, 0, none⟩) ns cg none 0 0 (lf : Int) false)) 38 rfl rfl (by kernel_rfl) (by kernel_rfl) (by kernel_rfl) (fun _ _ _ h => h) (by kernel_rfl) ((Ext.stable W).and (Stable.and (syR_st W g ns cg rs) tr_st)) (fun y hy => hy.1) (yieldsU_val rfl (fun u hu => by go_simp)) ?_
        refine anyU_one 7 1 _ rfl rfl (by kernel_rfl) ?_
        intro u hu
        go_wp2_with fail
        change ∃ C' : World → Prop, _ ∧ _ ∧ _ ∧ anyU _ _ _ _ _ _ 1 _ _ _
        have hb1 : Below u.heap.size u (u.alloc (.cells #[.slice none 0 0, .slice none 0 0, .int .i64 0, .bool false] 25)) := bel_alloc1 u _
        have Y1 := Lib.hid (show SyD W u.heap.size _ from ⟨Blk.new u #[.slice none 0 0, .slice none 0 0, .int .i64 0, .bool false] 25, hu.1.size⟩)
        have E1 := Lib.hid (Ext.trans hu.1 hb1)
        have D1 := Lib.hid ((syR_st W g ns cg rs) _ _ hu.2.1 hb1)
        generalize World.alloc u _ = u1 at Y1 E1 D1 hb1 ⊢
        generalize u.heap.size = b6 at Y1 ⊢
        clear hu hb1
        refine anchorF (fun y => Ext W y ∧ (SyR W g ns cg rs) y ∧ (SyD W b6) y) (fun y hy => hy.1) ((Ext.stable W).and (Stable.and (syR_st W g ns cg rs) (syD_st W b6))) ⟨E1.out, D1.out, Y1.out⟩ ?_
        (try simp only [Act.put])
        clear E1 Y1 D1
        refine anyU_tail 8 [] rfl rfl (by decide) (by kernel_rfl) ?_
        intro u2 hu2
        simp only [Act.put, List.filterMap_cons, List.filterMap_nil, List.getElem?_cons_succ, List.getElem?_cons_zero]
        have b0 := hu2.2.2.1
        obtain ⟨d0, d1, d2, d3, ld⟩ := blk4_facts b0
        have f0 := b0.frozen 0; have f1 := b0.frozen 1; have f2 := b0.frozen 2; have f3 := b0.frozen 3
        obtain ⟨g', cg', hg, hg1, hg2, hg3, hg4⟩ := OwnS.rows hu2.2.1 (by rw [← HNs.out]; omega)
        rw [← HNs.out] at hg hg1
        simp at hg
        obtain ⟨rfl, rfl⟩ := hg
        have hne : g ≠ b6 := fun e => own_ne2 hu2.2.1 b0 (by rw [← e]; rfl)
        have XB := ((((b0.set 0 (.slice (some ⟨g, 0, none⟩) ns cg)).set 1 (.slice none 0 0)).set 2 (.int .i64 (lf : Int))).set 3 (.bool false))
        have XR := ((((hg4.other (b' := b6) (o := 0) (v := .slice (some ⟨g, 0, none⟩) ns cg) hne).other (b' := b6) (o := 1) (v := .slice none 0 0) hne).other (b' := b6) (o := 2) (v := .int .i64 (lf : Int)) hne).other (b' := b6) (o := 3) (v := .bool false) hne)
        have XE := ((((Below.setCell hu2.1 (p := ⟨b6, 0, none⟩) hu2.2.2.2 (.slice (some ⟨g, 0, none⟩) ns cg)).setCell (p := ⟨b6, 1, none⟩) hu2.2.2.2 (.slice none 0 0)).setCell (p := ⟨b6, 2, none⟩) hu2.2.2.2 (.int .i64 (lf : Int))).setCell (p := ⟨b6, 3, none⟩) hu2.2.2.2 (.bool false))
        have hb6 := hu2.2.2.2
        clear hu2
        go_wp2_with fail
        go_meet
        exact ⟨b6, g, cg, rfl, Lib.hid ⟨XB, XR, hg1, hg2, hne, Nat.le_trans EW.out.size hb6, Nat.le_trans EW.out.size hg3, EW.out.trans (Below.mono XE EW.out.size)⟩⟩
      case b37 =>
        intro u hu
        go_wp2_with fail
        change ∃ C' : World → Prop, _ ∧ _ ∧ _ ∧ anyU _ _ _ _ _ _ 3 _ _ _
        have hb1 : Below u.heap.size u (u.alloc (.cells #[.slice none 0 0, .slice none 0 0, .int .i64 0, .bool false] 25)) := bel_alloc1 u _
        have Y1 := Lib.hid (show SyD W u.heap.size _ from ⟨Blk.new u #[.slice none 0 0, .slice none 0 0, .int .i64 0, .bool false] 25, hu.1.size⟩)
        have E1 := Lib.hid (Ext.trans hu.1 hb1)
        have D1 := Lib.hid ((syA_st W bb) _ _ hu.2.1 hb1)
        generalize World.alloc u _ = u1 at Y1 E1 D1 hb1 ⊢
        generalize u.heap.size = b6 at Y1 ⊢
        clear hu hb1
        refine anchorF (fun y => Ext W y ∧ (SyA W bb) y ∧ (SyD W b6) y) (fun y hy => hy.1) ((Ext.stable W).and (Stable.and (syA_st W bb) (syD_st W b6))) ⟨E1.out, D1.out, Y1.out⟩ ?_
        (try simp only [Act.put])
        clear E1 Y1 D1
        refine anyU_one 3 2 _ rfl rfl (by kernel_rfl) ?_
        intro u hu
        refine appSs rfl (.tmp 32) (.tmp 34) rfl W.heap.size (.slice (some ⟨bb, 0, none⟩) 0 0) [] rfl hu.2.1 ps ns cs rs rfl (SX.out.below (EW.out.trans (Below.mono hu.1 EW.out.size))) (by omega) (by simp; omega) hu.1.size ?_
        intro v3 u1 o3 g3
        have E1 := Lib.hid (show Ext W u1 from bel_grownS hu.1 hu.2.1 g3 hu.1.size)
        have D1 := Lib.hid (show (SyD W b6) u1 from ⟨(g3.block _ hu.2.2.1.lt (fun e => own_ne2 hu.2.1 hu.2.2.1 e.symm)).trans hu.2.2.1, hu.2.2.2⟩)
        have o3' : OwnS u1 W.heap.size v3 rs := o3
        clear g3 hu
        obtain ⟨g, cg, hv3, _, _, _, _⟩ := o3'.rows (by rw [← HNs.out]; omega)
        rw [← HNs.out] at hv3
        subst hv3
        have Y1 := Lib.hid (show SyR W g ns cg rs u1 from o3')
        clear o3 o3'
        go_wp2_with fail
        change ∃ C' : World → Prop, _ ∧ _ ∧ _ ∧ anyU _ _ _ _ _ _ 2 _ _ _
        refine anchorF (fun y => Ext W y ∧ (SyR W g ns cg rs) y ∧ (SyD W b6) y) (fun y hy => hy.1) ((Ext.stable W).and (Stable.and (syR_st W g ns cg rs) (syD_st W b6))) ⟨E1.out, Y1.out, D1.out⟩ ?_
        (try simp only [Act.put])
        clear E1 Y1 D1
        refine anyU_takeD (i := 6) (v := .agg (dskC (some ⟨g, 0, none⟩) ns cg none 0 0 (lf : Int) false)) 38 rfl rfl (by kernel_rfl) (by kernel_rfl) (by kernel_rfl) (fun _ _ _ h => h) (by kernel_rfl) ((Ext.stable W).and (Stable.and (syR_st W g ns cg rs) (syD_st W b6))) (fun y hy => hy.1) (yieldsU_val rfl (fun u hu => by go_simp)) ?_
        refine anyU_tail 8 [] rfl rfl (by decide) (by kernel_rfl) ?_
        intro u2 hu2
        simp only [Act.put, List.filterMap_cons, List.filterMap_nil, List.getElem?_cons_succ, List.getElem?_cons_zero]
        have b0 := hu2.2.2.1
        obtain ⟨d0, d1, d2, d3, ld⟩ := blk4_facts b0
        have f0 := b0.frozen 0; have f1 := b0.frozen 1; have f2 := b0.frozen 2; have f3 := b0.frozen 3
        obtain ⟨g', cg', hg, hg1, hg2, hg3, hg4⟩ := OwnS.rows hu2.2.1 (by rw [← HNs.out]; omega)
        rw [← HNs.out] at hg hg1
        simp at hg
        obtain ⟨rfl, rfl⟩ := hg
        have hne : g ≠ b6 := fun e => own_ne2 hu2.2.1 b0 (by rw [← e]; rfl)
        have XB := ((((b0.set 0 (.slice (some ⟨g, 0, none⟩) ns cg)).set 1 (.slice none 0 0)).set 2 (.int .i64 (lf : Int))).set 3 (.bool false))
        have XR := ((((hg4.other (b' := b6) (o := 0) (v := .slice (some ⟨g, 0, none⟩) ns cg) hne).other (b' := b6) (o := 1) (v := .slice none 0 0) hne).other (b' := b6) (o := 2) (v := .int .i64 (lf : Int)) hne).other (b' := b6) (o := 3) (v := .bool false) hne)
        have XE := ((((Below.setCell hu2.1 (p := ⟨b6, 0, none⟩) hu2.2.2.2 (.slice (some ⟨g, 0, none⟩) ns cg)).setCell (p := ⟨b6, 1, none⟩) hu2.2.2.2 (.slice none 0 0)).setCell (p := ⟨b6, 2, none⟩) hu2.2.2.2 (.int .i64 (lf : Int))).setCell (p := ⟨b6, 3, none⟩) hu2.2.2.2 (.bool false))
        have hb6 := hu2.2.2.2
        clear hu2
        go_wp2_with fail
        go_meet
        exact ⟨b6, g, cg, rfl, Lib.hid ⟨XB, XR, hg1, hg2, hne, Nat.le_trans EW.out.size hb6, Nat.le_trans EW.out.size hg3, EW.out.trans (Below.mono XE EW.out.size)⟩⟩
    case b07 =>
      intro u hu
      go_wp2_with fail
      change ∃ C' : World → Prop, _ ∧ _ ∧ _ ∧ anyU _ _ _ _ _ _ 4 _ _ _
      have hb1 : Below u.heap.size u (u.alloc (.cells #[.slice none 0 0, .slice none 0 0, .int .i64 0, .bool false] 25)) := bel_alloc1 u _
      have Y1 := Lib.hid (show SyD W u.heap.size _ from ⟨Blk.new u #[.slice none 0 0, .slice none 0 0, .int .i64 0, .bool false] 25, hu.1.size⟩)
      have E1 := Lib.hid (Ext.trans hu.1 hb1)
      have D1 := Lib.hid (tr_st _ _ hu.2.1 hb1)
      generalize World.alloc u _ = u1 at Y1 E1 D1 hb1 ⊢
      generalize u.heap.size = b6 at Y1 ⊢
      clear hu hb1
      refine anchorF (fun y => Ext W y ∧ (fun _ => True) y ∧ (SyD W b6) y) (fun y hy => hy.1) ((Ext.stable W).and (Stable.and tr_st (syD_st W b6))) ⟨E1.out, D1.out, Y1.out⟩ ?_
      (try simp only [Act.put])
      clear E1 Y1 D1
      refine anyU_one 0 3 _ rfl rfl (by kernel_rfl) ?_
      intro u hu
      go_wp2_with fail
      change ∃ C' : World → Prop, _ ∧ _ ∧ _ ∧ anyU _ _ _ _ _ _ 3 _ _ _
      have hb1 : Below u.heap.size u (u.alloc (.cells #[] 35)) := bel_alloc1 u _
      have Y1 := Lib.hid (show OwnS _ W.heap.size _ [] from ownS_empty u W.heap.size hu.1.size)
      have E1 := Lib.hid (Ext.trans hu.1 hb1)
      have D1 := Lib.hid ((syD_st W b6) _ _ hu.2.2 hb1)
      generalize World.alloc u _ = u1 at Y1 E1 D1 hb1 ⊢
      generalize u.heap.size = bb at Y1 ⊢
      clear hu hb1
      refine anchorF (fun y => Ext W y ∧ (SyA W bb) y ∧ (SyD W b6) y) (fun y hy => hy.1) ((Ext.stable W).and (Stable.and (syA_st W bb) (syD_st W b6))) ⟨E1.out, Y1.out, D1.out⟩ ?_
      (try simp only [Act.put])
      clear E1 Y1 D1
      refine anyU_one 3 2 _ rfl rfl (by kernel_rfl) ?_
      intro u hu
      refine appSs rfl (.tmp 32) (.tmp 34) rfl W.heap.size (.slice (some ⟨bb, 0, none⟩) 0 0) [] rfl hu.2.1 ps ns cs rs rfl (SX.out.below (EW.out.trans (Below.mono hu.1 EW.out.size))) (by omega) (by simp; omega) hu.1.size ?_
      intro v3 u1 o3 g3
      have E1 := Lib.hid (show Ext W u1 from bel_grownS hu.1 hu.2.1 g3 hu.1.size)
      have D1 := Lib.hid (show (SyD W b6) u1 from ⟨(g3.block _ hu.2.2.1.lt (fun e => own_ne2 hu.2.1 hu.2.2.1 e.symm)).trans hu.2.2.1, hu.2.2.2⟩)
      have o3' : OwnS u1 W.heap.size v3 rs := o3
      clear g3 hu
      obtain ⟨g, cg, hv3, _, _, _, _⟩ := o3'.rows (by rw [← HNs.out]; omega)
      rw [← HNs.out] at hv3
      subst hv3
      have Y1 := Lib.hid (show SyR W g ns cg rs u1 from o3')
      clear o3 o3'
      go_wp2_with fail
      change ∃ C' : World → Prop, _ ∧ _ ∧ _ ∧ anyU _ _ _ _ _ _ 2 _ _ _
      refine anchorF (fun y => Ext W y ∧ (SyR W g ns cg rs) y ∧ (SyD W b6) y) (fun y hy => hy.1) ((Ext.stable W).and (Stable.and (syR_st W g ns cg rs) (syD_st W b6))) ⟨E1.out, Y1.out, D1.out⟩ ?_
      (try simp only [Act.put])
      clear E1 Y1 D1
      refine anyU_takeD (i := 6) (v := .agg (dskC (some ⟨g, 0, none⟩) ns cg none 0 0 (lf : Int) false)) 38 rfl rfl (by kernel_rfl) (by kernel_rfl) (by kernel_rfl) (fun _ _ _ h => h) (by kernel_rfl) ((Ext.stable W).and (Stable.and (syR_st W g ns cg rs) (syD_st W b6))) (fun y hy => hy.1) (yieldsU_val rfl (fun u hu => by go_simp)) ?_
      refine anyU_tail 8 [] rfl rfl (by decide) (by kernel_rfl) ?_
      intro u2 hu2
      simp only [Act.put, List.filterMap_cons, List.filterMap_nil, List.getElem?_cons_succ, List.getElem?_cons_zero]
      have b0 := hu2.2.2.1
      obtain ⟨d0, d1, d2, d3, ld⟩ := blk4_facts b0
      have f0 := b0.frozen 0; have f1 := b0.frozen 1; have f2 := b0.frozen 2; have f3 := b0.frozen 3
      obtain ⟨g', cg', hg, hg1, hg2, hg3, hg4⟩ := OwnS.rows hu2.2.1 (by rw [← HNs.out]; omega)
      rw [← HNs.out] at hg hg1
      simp at hg
      obtain ⟨rfl, rfl⟩ := hg
      have hne : g ≠ b6 := fun e => own_ne2 hu2.2.1 b0 (by rw [← e]; rfl)
      have XB := ((((b0.set 0 (.slice (some ⟨g, 0, none⟩) ns cg)).set 1 (.slice none 0 0)).set 2 (.int .i64 (lf : Int))).set 3 (.bool false))
      have XR := ((((hg4.other (b' := b6) (o := 0) (v := .slice (some ⟨g, 0, none⟩) ns cg) hne).other (b' := b6) (o := 1) (v := .slice none 0 0) hne).other (b' := b6) (o := 2) (v := .int .i64 (lf : Int)) hne).other (b' := b6) (o := 3) (v := .bool false) hne)
      have XE := ((((Below.setCell hu2.1 (p := ⟨b6, 0, none⟩) hu2.2.2.2 (.slice (some ⟨g, 0, none⟩) ns cg)).setCell (p := ⟨b6, 1, none⟩) hu2.2.2.2 (.slice none 0 0)).setCell (p := ⟨b6, 2, none⟩) hu2.2.2.2 (.int .i64 (lf : Int))).setCell (p := ⟨b6, 3, none⟩) hu2.2.2.2 (.bool false))
      have hb6 := hu2.2.2.2
      clear hu2
      go_wp2_with fail
      go_meet
      exact ⟨b6, g, cg, rfl, Lib.hid ⟨XB, XR, hg1, hg2, hne, Nat.le_trans EW.out.size hb6, Nat.le_trans EW.out.size hg3, EW.out.trans (Below.mono XE EW.out.size)⟩⟩
  case rest =>
    obtain ⟨x, g, c, rfl, HC0⟩ := hcut
    obtain ⟨X5', R5', hcc, hcc2, hgx, hx1, hg1, E5⟩ := HC0.out
    have X5 := Lib.hid X5'
    have R5 := Lib.hid R5'
    have V5 := Lib.hid (V1.out.below E5 V1.out.lt)
    have Z5 := Lib.hid (Z1.out.below E5 Z1.out.lt)
    have B5 := Lib.hid (B1.out.trans (E5.mono B1.out.size))
    clear HC0 X5' R5' E5 c0 c1 c2 c3 lb SX
    go_wp2_with fail
    go_loopw [7] (fun i wr => ∃ k : Nat, k ≤ np ∧ i = .int .i64 k ∧ Hid (RowsIn wr g (setRows rs (ws.take k))) ∧ Hid (Blk wr x (dskC (some ⟨g, 0, none⟩) ns c none 0 0 (lf : Int) false) 25) ∧ Hid (Blk wr (w.heap.size + 1) #[.slice none 0 0, .slice none 0 0, .int .i64 0, .bool false] 25) ∧ Hid (Blk wr w.heap.size (dskC ps ns cs (some pa) np cp (lf : Int) false) 25) ∧ Hid (Below w.heap.size w wr)) (fun i _ => np - (intOf i).toNat)
    case atStart => exact ⟨0, by omega, rfl, Lib.hid (by rw [List.take_zero]; exact R5.out), X5, Z5, V5, B5⟩
    case round =>
      obtain ⟨k, hk, rfl, HR, HXX, HZ, HVx, HB⟩ := hrel
      clear R5 X5 Z5 V5 B5
      by_cases hlt : k < np
      · obtain ⟨b', off, hp, hb', hcell, hcell2, hwt⟩ := (hz.out.2.1.below HB.out).at (k := k) (by omega)
        cases hp
        have HX := Lib.hid (HV.out.2.2.1 (ws.getD k wt0) (getD_mem (by have := HNp.out; omega)))
        have HTK := Lib.hid (show setRows rs (ws.take (k + 1)) = (setRows rs (ws.take k)).set (ws.getD k wt0).pos.toNat (ws.getD k wt0).row by rw [take_snocD ws k wt0 (by have := HNp.out; omega), setRows_snoc])
        obtain ⟨⟨po, ⟨xp, xm, xc, xb⟩⟩, hx⟩ : ∃ y, ws.getD k wt0 = y := ⟨_, rfl⟩
        rw [hx] at hcell hcell2 HX HTK
        dsimp only [Rw.v] at hcell hcell2
        dsimp only at HX HTK
        clear hx hwt
        obtain ⟨j, rfl⟩ : ∃ j : Nat, po = (j : Int) := ⟨po.toNat, by have := HX.out.1.1; omega⟩
        have hj : j < ns := by have := HX.out.1.2; have := HNs.out; omega
        have hxm := HX.out.2
        subst hxm
        have HL := Lib.hid (show (setRows rs (ws.take k)).length = ns by rw [setRows_len, HNs.out])
        have hknp : k < np := by omega
        clear HX
        go_wp2_with fail
        refine wp_region_any (by kernel_rfl) ?_
        change wpAny _ _ _ _ _ _ _ (World.drew _)
        generalize hWD : World.drew _ = W
        have VX := Lib.hid (show Blk W w.heap.size (dskC ps ns cs (some ⟨b', off, none⟩) np cp (lf : Int) false) 25 by rw [← hWD]; exact HVx.out)
        have XX := Lib.hid (show Blk W x (dskC (some ⟨g, 0, none⟩) ns c none 0 0 (lf : Int) false) 25 by rw [← hWD]; exact HXX.out)
        have ZX := Lib.hid (show Blk W (w.heap.size + 1) #[.slice none 0 0, .slice none 0 0, .int .i64 0, .bool false] 25 by rw [← hWD]; exact HZ.out)
        have RX := Lib.hid (show RowsIn W g (setRows rs (ws.take k)) by rw [← hWD]; exact HR.out)
        have EW := Lib.hid (show Below w.heap.size w W by rw [← hWD]; exact HB.out.drew)
        have hcW : W.cell? ⟨b', off + k * 2, none⟩ = some (.int .i64 (j : Int)) := by rw [← hWD]; exact hcell
        have hcW2 : W.cell? ⟨b', off + k * 2 + 1, none⟩ = some (.slice xp 128 xc) := by rw [← hWD]; exact hcell2
        have hbW : b' < W.heap.size := by rw [← hWD]; exact hb'
        have HC1 := Lib.hid (fun u (hu : Ext W u) => (Below.cell hu (p := ⟨b', off + k * 2, none⟩) hbW).trans hcW)
        have HC2 := Lib.hid (fun u (hu : Ext W u) => (Below.cell hu (p := ⟨b', off + k * 2 + 1, none⟩) hbW).trans hcW2)
        clear hWD hcW hcW2 hcell hcell2 HVx HXX HZ HR HB
        have hCD : ∀ u, Ext W u → Ext W u := fun u hu => hu
        refine region_U (D := Ext W) (Ext W) [14, 15] (Ext.refl W) ?_
        refine anyU_takeD (i := 0) (v := .pointer (some ⟨x, 0, none⟩)) 44 rfl rfl (by kernel_rfl) (by kernel_rfl) (by kernel_rfl) (fun _ _ _ h => h) (by kernel_rfl) (Ext.stable _) hCD (yieldsU_val rfl (fun u hu => by go_simp)) ?_
        refine anyU_takeD (i := 1) (v := .slice (some ⟨g, 0, none⟩) ns c) 45 rfl rfl (by kernel_rfl) (by kernel_rfl) (by kernel_rfl) (fun _ _ _ h => h) (by kernel_rfl) (Ext.stable _) hCD (yieldsU_val rfl (fun u hu => by have c1 := (XX.out.below hu XX.out.lt).cell 0; simp at c1; go_simp)) ?_
        refine anyU_takeD (i := 2) (v := .pointer (some ⟨w.heap.size, 1, none⟩)) 46 rfl rfl (by kernel_rfl) (by kernel_rfl) (by kernel_rfl) (fun _ _ _ h => h) (by kernel_rfl) (Ext.stable _) hCD (yieldsU_val rfl (fun u hu => by go_simp)) ?_
        refine anyU_takeD (i := 3) (v := .slice (some ⟨b', off, none⟩) np cp) 47 rfl rfl (by kernel_rfl) (by kernel_rfl) (by kernel_rfl) (fun _ _ _ h => h) (by kernel_rfl) (Ext.stable _) hCD (yieldsU_val rfl (fun u hu => by have c1 := (VX.out.below hu VX.out.lt).cell 1; simp at c1; go_simp)) ?_
        refine anyU_takeD (i := 4) (v := .int .i64 (k : Int)) 48 rfl rfl (by kernel_rfl) (by kernel_rfl) (by kernel_rfl) (fun _ _ _ h => h) (by kernel_rfl) (Ext.stable _) hCD (yieldsU_val rfl (fun u hu => by go_simp)) ?_
        refine anyU_takeD (i := 5) (v := .pointer (some ⟨b', off + k * 2, none⟩)) 49 rfl rfl (by kernel_rfl) (by kernel_rfl) (by kernel_rfl) (fun _ _ _ h => h) (by kernel_rfl) (Ext.stable _) hCD (yieldsU_val rfl (fun u hu => by go_simp)) ?_
        simp only [Act.put, List.setIfInBounds_toArray, List.set_cons_succ, List.set_cons_zero]
        refine anyU_takeD (i := 6) (v := .pointer (some ⟨b', off + k * 2, none⟩)) 50 rfl rfl (by kernel_rfl) (by kernel_rfl) (by kernel_rfl) (fun _ _ _ h => h) (by kernel_rfl) (Ext.stable _) hCD (yieldsU_val rfl (fun u hu => by go_simp)) ?_
        refine anyU_takeD (i := 7) (v := .int .i64 (j : Int)) 51 rfl rfl (by kernel_rfl) (by kernel_rfl) (by kernel_rfl) (fun _ _ _ h => h) (by kernel_rfl) (Ext.stable _) hCD (yieldsU_val rfl (fun u hu => by have c1 := HC1.out u hu; go_simp)) ?_
        refine anyU_takeD (i := 8) (v := .pointer (some ⟨w.heap.size, 1, none⟩)) 52 rfl rfl (by kernel_rfl) (by kernel_rfl) (by kernel_rfl) (fun _ _ _ h => h) (by kernel_rfl) (Ext.stable _) hCD (yieldsU_val rfl (fun u hu => by go_simp)) ?_
        refine anyU_takeD (i := 9) (v := .slice (some ⟨b', off, none⟩) np cp) 53 rfl rfl (by kernel_rfl) (by kernel_rfl) (by kernel_rfl) (fun _ _ _ h => h) (by kernel_rfl) (Ext.stable _) hCD (yieldsU_val rfl (fun u hu => by have c1 := (VX.out.below hu VX.out.lt).cell 1; simp at c1; go_simp)) ?_
        refine anyU_takeD (i := 10) (v := .int .i64 (k : Int)) 54 rfl rfl (by kernel_rfl) (by kernel_rfl) (by kernel_rfl) (fun _ _ _ h => h) (by kernel_rfl) (Ext.stable _) hCD (yieldsU_val rfl (fun u hu => by go_simp)) ?_
        refine anyU_takeD (i := 11) (v := .pointer (some ⟨b', off + k * 2, none⟩)) 55 rfl rfl (by kernel_rfl) (by kernel_rfl) (by kernel_rfl) (fun _ _ _ h => h) (by kernel_rfl) (Ext.stable _) hCD (yieldsU_val rfl (fun u hu => by go_simp)) ?_
        simp only [Act.put, List.setIfInBounds_toArray, List.set_cons_succ, List.set_cons_zero]
        refine anyU_takeD (i := 12) (v := .pointer (some ⟨b', off + k * 2 + 1, none⟩)) 56 rfl rfl (by kernel_rfl) (by kernel_rfl) (by kernel_rfl) (fun _ _ _ h => h) (by kernel_rfl) (Ext.stable _) hCD (yieldsU_val rfl (fun u hu => by go_simp)) ?_
        refine anyU_takeD (i := 13) (v := .slice xp 128 xc) 57 rfl rfl (by kernel_rfl) (by kernel_rfl) (by kernel_rfl) (fun _ _ _ h => h) (by kernel_rfl) (Ext.stable _) hCD (yieldsU_val rfl (fun u hu => by have c1 := HC2.out u hu; go_simp)) ?_
        simp only [Act.put, List.setIfInBounds_toArray, List.set_cons_succ, List.set_cons_zero]
        refine anyU_tail 14 [15] rfl rfl (by decide) (by kernel_rfl) ?_
        intro u2 hu2
        simp only [Act.put, List.filterMap_cons, List.filterMap_nil, List.getElem?_cons_succ, List.getElem?_cons_zero]
        have R2 := Lib.hid (RX.out.below hu2 RX.out.1)
        have X2 := Lib.hid (XX.out.below hu2 XX.out.lt)
        have Z2 := Lib.hid (ZX.out.below hu2 ZX.out.lt)
        have V2 := Lib.hid (VX.out.below hu2 VX.out.lt)
        have B2 := Lib.hid (EW.out.trans (Below.mono hu2 EW.out.size))
        clear hu2
        obtain ⟨rc1, rc2⟩ := R2.out.2 j (by rw [HL.out]; exact hj)
        dsimp only [Rw.v] at rc1
        have rlt := R2.out.1
        go_wp2_with fail
        refine ⟨⟨k + 1, by omega, by go_num, Lib.hid ?_, Lib.hid ?_, Lib.hid ?_, Lib.hid ?_, Lib.hid ?_⟩, ?_⟩
        · rw [HTK.out]
          exact R2.out.set (k := j) (r := ⟨xp, 128, xc, xb⟩) (by rw [HL.out]; exact hj)
        · exact X2.out.other _ _ (by omega)
        · exact Z2.out.other _ _ (by omega)
        · exact V2.out.other _ _ (by omega)
        · exact B2.out.setCell (p := ⟨g, j, none⟩) (by show w.heap.size ≤ g; omega) _
        · simp only [intOf]; omega
      · obtain rfl : k = np := by omega
        obtain ⟨c0, c1, c2, c3, lb⟩ := blk4_facts HXX.out
        obtain ⟨d0, d1, d2, d3, ld⟩ := blk4_facts HZ.out
        have f0 := HZ.out.frozen 0; have f1 := HZ.out.frozen 1; have f2 := HZ.out.frozen 2; have f3 := HZ.out.frozen 3
        have q2 := HXX.out.frozen 2
        go_wp2_with fail
        refine bodyPost_ret (v := .tuple #[.agg (dskC (some ⟨g, 0, none⟩) ns c none 0 0 ((lf : Int) - (k : Int)) false), .int .i64 0]) ?_ rfl ⟨?_, ?_⟩
        · rw [results_cell_tmp rfl]; go_simp
        · have hw0 : ∀ r ∈ setRows rs ws, RwOk w r ∧ r.m = 128 := setRows_all (q := fun r => RwOk w r ∧ r.m = 128) ws rs (fun r hr => ⟨hz.out.1.2.2.1 r hr, HV.out.2.1 r hr⟩) (fun x hx => ⟨(hz.out.2.1.2.2.1 x hx).2, (HV.out.2.2.1 x hx).2⟩)
          have ht : ws.take k = ws := List.take_of_length_le (by have := HNp.out; omega)
          have hR := HR.out
          rw [ht] at hR
          have hs : stopB (lf : Int) ws.length = false := by unfold stopB; have := HNp.out; simp; try omega
          refine isSyn (rows := setRows rs ws) ?_ (by rw [setRows_len, HNs.out]) hns.1 hcc hcc2 (fun r hr => (hw0 r hr).1.below ?_) (fun r hr => (hw0 r hr).2) ?_ ?_ hs (by rw [hs]; rfl) (by omega) (fun b _ q1 q2 => setRows_all (q := fun r => SepR r b) ws rs q1 q2)
          · (iterate 5 (refine RowsIn.other ?_ (by omega))); exact hR
          · (iterate 5 (refine Below.setCell ?_ (by simp <;> omega) _)); exact HB.out
          · unfold synB; rw [hs, setRows_map]; rfl
          · unfold synL; rw [hs]; have := HNp.out; simp; try omega
        · (iterate 5 (refine Below.setCell ?_ (by simp <;> omega) _)); exact HB.out

set_option maxRecDepth 100000 in
set_option maxHeartbeats 4000000 in
theorem rsync_n1 (ps : Option Addr) (ns cs : Nat) (rs : List Rw) (ws : List Wt) (w : World) (hz : Hid (DskV w ps ns none 0 (-1) rs ws)) (hq : Hid (runB (-1) false rs ws = true)) (hp1 : 0 ≤ 0) (hp2 : 0 ≤ 9223372036854775807) :
    Calls Try.prog 24 #[.agg (dskC ps ns cs none 0 0 (-1) false)] w fun e w' => IsSyn w.heap.size ns rs ws (-1) w' e ∧ Below w.heap.size w w' := by
  have V0 := Lib.hid (Blk.new w (dskC ps ns cs none 0 0 (-1) false) 25)
  have h1 := Lib.hid (bel_alloc1 w (.cells (dskC ps ns cs none 0 0 (-1) false) 25))
  have VW := Lib.hid (V0.out.alloc (.cells #[.slice none 0 0, .slice none 0 0, .int .i64 0, .bool false] 25))
  have ZW := Lib.hid (Blk.new (w.alloc (.cells (dskC ps ns cs none 0 0 (-1) false) 25)) #[.slice none 0 0, .slice none 0 0, .int .i64 0, .bool false] 25)
  have h2 := Lib.hid (h1.out.alloc h1.out.size (.cells #[.slice none 0 0, .slice none 0 0, .int .i64 0, .bool false] 25))
  have H0 := Lib.hid (hz.out.below h2.out)
  have m1 := hz.out.1.2.1
  have m2 := hz.out.2.1.2.1
  obtain ⟨N, hN⟩ : ∃ N, (w.alloc (.cells (dskC ps ns cs none 0 0 (-1) false) 25)).heap.size = N := ⟨_, rfl⟩
  have hNe : N = w.heap.size + 1 := by rw [← hN]; simp
  rw [hN] at ZW
  subst hNe
  clear hN
  have HC := Lib.hid (chk_yes (run_chk hq.out))
  have HNs := Lib.hid hz.out.1.1
  have HNp := Lib.hid hz.out.2.1.1
  have HV := Lib.hid (run_facts hq.out)
  have hns : ns ≤ 4096 ∧ 1 ≤ ns := by have := HV.out.1; have := HNs.out; omega
  go_enter Try.func24, Try.ntmps24
  go_wp2_with fail
  refine (rcheck_any ps ns cs none 0 0 (-1) false rs ws _ H0).mono ?_; rintro e w1 ⟨rfl, hb⟩
  have V1 := Lib.hid (VW.out.below hb VW.out.lt)
  have Z1 := Lib.hid (ZW.out.below hb ZW.out.lt)
  have B1 := Lib.hid (h2.out.trans (hb.mono h2.out.size)); clear hb
  obtain ⟨c0, c1, c2, c3, lb⟩ := blk4_facts V1.out
  rw [HC.out]
  have SX := Lib.hid (hz.out.1.below B1.out)
  have hw1 : w.heap.size + 1 < w1.heap.size := Z1.out.lt
  go_upto_region 7 with fail
  go_cut [6] (fun s6 wx => ∃ x g c, s6 = .pointer (some ⟨x, 0, none⟩) ∧ Hid (Blk wx x (dskC (some ⟨g, 0, none⟩) ns c none 0 0 (-1) false) 25 ∧ RowsIn wx g rs ∧ ns ≤ c ∧ c ≤ 9223372036854775807 ∧ g ≠ x ∧ w1.heap.size ≤ x ∧ w1.heap.size ≤ g ∧ Below w1.heap.size w1 wx))
  case first =>
    refine wp_region_any (by kernel_rfl) ?_
    change wpAny _ _ _ _ _ _ _ (World.drew _)
    generalize hWD : World.drew _ = W
    have VX := Lib.hid (show Blk W w.heap.size (dskC ps ns cs none 0 0 (-1) false) 25 by rw [← hWD]; exact V1.out)
    have EW := Lib.hid (show Below w1.heap.size w1 W by rw [← hWD]; exact (Below.refl _ _).drew)
    clear hWD
    refine region_U (D := Ext W) (fun y => Ext W y ∧ (fun _ => True) y ∧ (fun _ => True) y) [8] ⟨Ext.refl W, trivial, trivial⟩ ?_
    refine anyU_takeD (i := 1) (v := .pointer (some ⟨w.heap.size, 0, none⟩)) 33 rfl rfl (by kernel_rfl) (by kernel_rfl) (by kernel_rfl) (fun _ _ _ h => h) (by kernel_rfl) ((Ext.stable W).and (Stable.and tr_st tr_st)) (fun y hy => hy.1) (yieldsU_val rfl (fun u hu => by go_simp)) ?_
    refine anyU_takeD (i := 2) (v := .slice ps ns cs) 34 rfl rfl (by kernel_rfl) (by kernel_rfl) (by kernel_rfl) (fun _ _ _ h => h) (by kernel_rfl) ((Ext.stable W).and (Stable.and tr_st tr_st)) (fun y hy => hy.1) (yieldsU_val rfl (fun u hu => by have c := (VX.out.below hu VX.out.lt).cell 0; go_simp)) ?_
    refine anyU_takeD (i := 4) (v := .pointer (some ⟨w.heap.size, 2, none⟩)) 36 rfl rfl (by kernel_rfl) (by kernel_rfl) (by kernel_rfl) (fun _ _ _ h => h) (by kernel_rfl) ((Ext.stable W).and (Stable.and tr_st tr_st)) (fun y hy => hy.1) (yieldsU_val rfl (fun u hu => by go_simp)) ?_
    refine anyU_takeD (i := 5) (v := .int .i64 (-1)) 37 rfl rfl (by kernel_rfl) (by kernel_rfl) (by kernel_rfl) (fun _ _ _ h => h) (by kernel_rfl) ((Ext.stable W).and (Stable.and tr_st tr_st)) (fun y hy => hy.1) (yieldsU_val rfl (fun u hu => by have c := (VX.out.below hu VX.out.lt).cell 2; simp at c; go_simp)) ?_
    simp only [Act.put, List.setIfInBounds_toArray, List.set_cons_succ, List.set_cons_zero]
    refine anyU_two 0 7 4 _ _ rfl rfl rfl rfl (by kernel_rfl) ?a07 ?b07
    case a07 =>
      intro u hu
      go_wp2_with fail
      change ∃ C' : World → Prop, _ ∧ _ ∧ _ ∧ anyU _ _ _ _ _ _ 4 _ _ _
      have hb1 : Below u.heap.size u (u.alloc (.cells #[] 35)) := bel_alloc1 u _
      have Y1 := Lib.hid (show OwnS _ W.heap.size _ [] from ownS_empty u W.heap.size hu.1.size)
      have E1 := Lib.hid (Ext.trans hu.1 hb1)
      have D1 := Lib.hid (tr_st _ _ hu.2.2 hb1)
      generalize World.alloc u _ = u1 at Y1 E1 D1 hb1 ⊢
      generalize u.heap.size = bb at Y1 ⊢
      clear hu hb1
      refine anchorF (fun y => Ext W y ∧ (SyA W bb) y ∧ (fun _ => True) y) (fun y hy => hy.1) ((Ext.stable W).and (Stable.and (syA_st W bb) tr_st)) ⟨E1.out, Y1.out, D1.out⟩ ?_
      (try simp only [Act.put])
      clear E1 Y1 D1
      refine anyU_two 3 7 3 _ _ rfl rfl rfl rfl (by kernel_rfl) ?a37 ?b37
      case a37 =>
        intro u hu
        refine appSs rfl (.tmp 32) (.tmp 34) rfl W.heap.size (.slice (some ⟨bb, 0, none⟩) 0 0) [] rfl hu.2.1 ps ns cs rs rfl (SX.out.below (EW.out.trans (Below.mono hu.1 EW.out.size))) (by omega) (by simp; omega) hu.1.size ?_
        intro v3 u1 o3 g3
        have E1 := Lib.hid (show Ext W u1 from bel_grownS hu.1 hu.2.1 g3 hu.1.size)
        have D1 := Lib.hid (show (fun _ => True) u1 from trivial)
        have o3' : OwnS u1 W.heap.size v3 rs := o3
        clear g3 hu
        obtain ⟨g, cg, hv3, _, _, _, _⟩ := o3'.rows (by rw [← HNs.out]; omega)
        rw [← HNs.out] at hv3
        subst hv3
        have Y1 := Lib.hid (show SyR W g ns cg rs u1 from o3')
        clear o3 o3'
        go_wp2_with fail
        change ∃ C' : World → Prop, _ ∧ _ ∧ _ ∧ anyU _ _ _ _ _ _ 3 _ _ _
        refine anchorF (fun y => Ext W y ∧ (SyR W g ns cg rs) y ∧ (fun _ => True) y) (fun y hy => hy.1) ((Ext.stable W).and (Stable.and (syR_st W g ns cg rs) tr_st)) ⟨E1.out, Y1.out, D1.out⟩ ?_
        (try simp only [Act.put])
        clear E1 Y1 D1
        refine anyU_takeD (i := 6) (v := .agg (dskC (some ⟨g, 0, none⟩) ns cg none 0 0 (-1) false)) 38 rfl rfl (by kernel_rfl) (by kernel_rfl) (by kernel_rfl) (fun _ _ _ h => h) (by kernel_rfl) ((Ext.stable W).and (Stable.and (syR_st W g ns cg rs) tr_st)) (fun y hy => hy.1) (yieldsU_val rfl (fun u hu => by go_simp)) ?_
        refine anyU_one 7 1 _ rfl rfl (by kernel_rfl) ?_
        intro u hu
        go_wp2_with fail
        change ∃ C' : World → Prop, _ ∧ _ ∧ _ ∧ anyU _ _ _ _ _ _ 1 _ _ _
        have hb1 : Below u.heap.size u (u.alloc (.cells #[.slice none 0 0, .slice none 0 0, .int .i64 0, .bool false] 25)) := bel_alloc1 u _
        have Y1 := Lib.hid (show SyD W u.heap.size _ from ⟨Blk.new u #[.slice none 0 0, .slice none 0 0, .int .i64 0, .bool false] 25, hu.1.size⟩)
        have E1 := Lib.hid (Ext.trans hu.1 hb1)
        have D1 := Lib.hid ((syR_st W g ns cg rs) _ _ hu.2.1 hb1)
        generalize World.alloc u _ = u1 at Y1 E1 D1 hb1 ⊢
        generalize u.heap.size = b6 at Y1 ⊢
        clear hu hb1
        refine anchorF (fun y => Ext W y ∧ (SyR W g ns cg rs) y ∧ (SyD W b6) y) (fun y hy => hy.1) ((Ext.stable W).and (Stable.and (syR_st W g ns cg rs) (syD_st W b6))) ⟨E1.out, D1.out, Y1.out⟩ ?_
        (try simp only [Act.put])
        clear E1 Y1 D1
        refine anyU_tail 8 [] rfl rfl (by decide) (by kernel_rfl) ?_
        intro u2 hu2
        simp only [Act.put, List.filterMap_cons, List.filterMap_nil, List.getElem?_cons_succ, List.getElem?_cons_zero]
        have b0 := hu2.2.2.1
        obtain ⟨d0, d1, d2, d3, ld⟩ := blk4_facts b0
        have f0 := b0.frozen 0; have f1 := b0.frozen 1; have f2 := b0.frozen 2; have f3 := b0.frozen 3
        obtain ⟨g', cg', hg, hg1, hg2, hg3, hg4⟩ := OwnS.rows hu2.2.1 (by rw [← HNs.out]; omega)
        rw [← HNs.out] at hg hg1
        simp at hg
        obtain ⟨rfl, rfl⟩ := hg
        have hne : g ≠ b6 := fun e => own_ne2 hu2.2.1 b0 (by rw [← e]; rfl)
        have XB := ((((b0.set 0 (.slice (some ⟨g, 0, none⟩) ns cg)).set 1 (.slice none 0 0)).set 2 (.int .i64 (-1))).set 3 (.bool false))
        have XR := ((((hg4.other (b' := b6) (o := 0) (v := .slice (some ⟨g, 0, none⟩) ns cg) hne).other (b' := b6) (o := 1) (v := .slice none 0 0) hne).other (b' := b6) (o := 2) (v := .int .i64 (-1)) hne).other (b' := b6) (o := 3) (v := .bool false) hne)
        have XE := ((((Below.setCell hu2.1 (p := ⟨b6, 0, none⟩) hu2.2.2.2 (.slice (some ⟨g, 0, none⟩) ns cg)).setCell (p := ⟨b6, 1, none⟩) hu2.2.2.2 (.slice none 0 0)).setCell (p := ⟨b6, 2, none⟩) hu2.2.2.2 (.int .i64 (-1))).setCell (p := ⟨b6, 3, none⟩) hu2.2.2.2 (.bool false))
        have hb6 := hu2.2.2.2
        clear hu2
        go_wp2_with fail
        go_meet
        exact ⟨b6, g, cg, rfl, Lib.hid ⟨XB, XR, hg1, hg2, hne, Nat.le_trans EW.out.size hb6, Nat.le_trans EW.out.size hg3, EW.out.trans (Below.mono XE EW.out.size)⟩⟩
      case b37 =>
        intro u hu
        go_wp2_with fail
        change ∃ C' : World → Prop, _ ∧ _ ∧ _ ∧ anyU _ _ _ _ _ _ 3 _ _ _
        have hb1 : Below u.heap.size u (u.alloc (.cells #[.slice none 0 0, .slice none 0 0, .int .i64 0, .bool false] 25)) := bel_alloc1 u _
        have Y1 := Lib.hid (show SyD W u.heap.size _ from ⟨Blk.new u #[.slice none 0 0, .slice none 0 0, .int .i64 0, .bool false] 25, hu.1.size⟩)
        have E1 := Lib.hid (Ext.trans hu.1 hb1)
        have D1 := Lib.hid ((syA_st W bb) _ _ hu.2.1 hb1)
        generalize World.alloc u _ = u1 at Y1 E1 D1 hb1 ⊢
        generalize u.heap.size = b6 at Y1 ⊢
        clear hu hb1
        refine anchorF (fun y => Ext W y ∧ (SyA W bb) y ∧ (SyD W b6) y) (fun y hy => hy.1) ((Ext.stable W).and (Stable.and (syA_st W bb) (syD_st W b6))) ⟨E1.out, D1.out, Y1.out⟩ ?_
        (try simp only [Act.put])
        clear E1 Y1 D1
        refine anyU_one 3 2 _ rfl rfl (by kernel_rfl) ?_
        intro u hu
        refine appSs rfl (.tmp 32) (.tmp 34) rfl W.heap.size (.slice (some ⟨bb, 0, none⟩) 0 0) [] rfl hu.2.1 ps ns cs rs rfl (SX.out.below (EW.out.trans (Below.mono hu.1 EW.out.size))) (by omega) (by simp; omega) hu.1.size ?_
        intro v3 u1 o3 g3
        have E1 := Lib.hid (show Ext W u1 from bel_grownS hu.1 hu.2.1 g3 hu.1.size)
        have D1 := Lib.hid (show (SyD W b6) u1 from ⟨(g3.block _ hu.2.2.1.lt (fun e => own_ne2 hu.2.1 hu.2.2.1 e.symm)).trans hu.2.2.1, hu.2.2.2⟩)
        have o3' : OwnS u1 W.heap.size v3 rs := o3
        clear g3 hu
        obtain ⟨g, cg, hv3, _, _, _, _⟩ := o3'.rows (by rw [← HNs.out]; omega)
        rw [← HNs.out] at hv3
        subst hv3
        have Y1 := Lib.hid (show SyR W g ns cg rs u1 from o3')
        clear o3 o3'
        go_wp2_with fail
        change ∃ C' : World → Prop, _ ∧ _ ∧ _ ∧ anyU _ _ _ _ _ _ 2 _ _ _
        refine anchorF (fun y => Ext W y ∧ (SyR W g ns cg rs) y ∧ (SyD W b6) y) (fun y hy => hy.1) ((Ext.stable W).and (Stable.and (syR_st W g ns cg rs) (syD_st W b6))) ⟨E1.out, Y1.out, D1.out⟩ ?_
        (try simp only [Act.put])
        clear E1 Y1 D1
        refine anyU_takeD (i := 6) (v := .agg (dskC (some ⟨g, 0, none⟩) ns cg none 0 0 (-1) false)) 38 rfl rfl (by kernel_rfl) (by kernel_rfl) (by kernel_rfl) (fun _ _ _ h => h) (by kernel_rfl) ((Ext.stable W).and (Stable.and (syR_st W g ns cg rs) (syD_st W b6))) (fun y hy => hy.1) (yieldsU_val rfl (fun u hu => by go_simp)) ?_
        refine anyU_tail 8 [] rfl rfl (by decide) (by kernel_rfl) ?_
        intro u2 hu2
        simp only [Act.put, List.filterMap_cons, List.filterMap_nil, List.getElem?_cons_succ, List.getElem?_cons_zero]
        have b0 := hu2.2.2.1
        obtain ⟨d0, d1, d2, d3, ld⟩ := blk4_facts b0
        have f0 := b0.frozen 0; have f1 := b0.frozen 1; have f2 := b0.frozen 2; have f3 := b0.frozen 3
        obtain ⟨g', cg', hg, hg1, hg2, hg3, hg4⟩ := OwnS.rows hu2.2.1 (by rw [← HNs.out]; omega)
        rw [← HNs.out] at hg hg1
        simp at hg
        obtain ⟨rfl, rfl⟩ := hg
        have hne : g ≠ b6 := fun e => own_ne2 hu2.2.1 b0 (by rw [← e]; rfl)
        have XB := ((((b0.set 0 (.slice (some ⟨g, 0, none⟩) ns cg)).set 1 (.slice none 0 0)).set 2 (.int .i64 (-1))).set 3 (.bool false))
        have XR := ((((hg4.other (b' := b6) (o := 0) (v := .slice (some ⟨g, 0, none⟩) ns cg) hne).other (b' := b6) (o := 1) (v := .slice none 0 0) hne).other (b' := b6) (o := 2) (v := .int .i64 (-1)) hne).other (b' := b6) (o := 3) (v := .bool false) hne)
        have XE := ((((Below.setCell hu2.1 (p := ⟨b6, 0, none⟩) hu2.2.2.2 (.slice (some ⟨g, 0, none⟩) ns cg)).setCell (p := ⟨b6, 1, none⟩) hu2.2.2.2 (.slice none 0 0)).setCell (p := ⟨b6, 2, none⟩) hu2.2.2.2 (.int .i64 (-1))).setCell (p := ⟨b6, 3, none⟩) hu2.2.2.2 (.bool false))
        have hb6 := hu2.2.2.2
        clear hu2
        go_wp2_with fail
        go_meet
        exact ⟨b6, g, cg, rfl, Lib.hid ⟨XB, XR, hg1, hg2, hne, Nat.le_trans EW.out.size hb6, Nat.le_trans EW.out.size hg3, EW.out.trans (Below.mono XE EW.out.size)⟩⟩
    case b07 =>
      intro u hu
      go_wp2_with fail
      change ∃ C' : World → Prop, _ ∧ _ ∧ _ ∧ anyU _ _ _ _ _ _ 4 _ _ _
      have hb1 : Below u.heap.size u (u.alloc (.cells #[.slice none 0 0, .slice none 0 0, .int .i64 0, .bool false] 25)) := bel_alloc1 u _
      have Y1 := Lib.hid (show SyD W u.heap.size _ from ⟨Blk.new u #[.slice none 0 0, .slice none 0 0, .int .i64 0, .bool false] 25, hu.1.size⟩)
      have E1 := Lib.hid (Ext.trans hu.1 hb1)
      have D1 := Lib.hid (tr_st _ _ hu.2.1 hb1)
      generalize World.alloc u _ = u1 at Y1 E1 D1 hb1 ⊢
      generalize u.heap.size = b6 at Y1 ⊢
      clear hu hb1
      refine anchorF (fun y => Ext W y ∧ (fun _ => True) y ∧ (SyD W b6) y) (fun y hy => hy.1) ((Ext.stable W).and (Stable.and tr_st (syD_st W b6))) ⟨E1.out, D1.out, Y1.out⟩ ?_
      (try simp only [Act.put])
      clear E1 Y1 D1
      refine anyU_one 0 3 _ rfl rfl (by kernel_rfl) ?_
      intro u hu
      go_wp2_with fail
      change ∃ C' : World → Prop, _ ∧ _ ∧ _ ∧ anyU _ _ _ _ _ _ 3 _ _ _
      have hb1 : Below u.heap.size u (u.alloc (.cells #[] 35)) := bel_alloc1 u _
      have Y1 := Lib.hid (show OwnS _ W.heap.size _ [] from ownS_empty u W.heap.size hu.1.size)
      have E1 := Lib.hid (Ext.trans hu.1 hb1)
      have D1 := Lib.hid ((syD_st W b6) _ _ hu.2.2 hb1)
      generalize World.alloc u _ = u1 at Y1 E1 D1 hb1 ⊢
      generalize u.heap.size = bb at Y1 ⊢
      clear hu hb1
      refine anchorF (fun y => Ext W y ∧ (SyA W bb) y ∧ (SyD W b6) y) (fun y hy => hy.1) ((Ext.stable W).and (Stable.and (syA_st W bb) (syD_st W b6))) ⟨E1.out, Y1.out, D1.out⟩ ?_
      (try simp only [Act.put])
      clear E1 Y1 D1
      refine anyU_one 3 2 _ rfl rfl (by kernel_rfl) ?_
      intro u hu
      refine appSs rfl (.tmp 32) (.tmp 34) rfl W.heap.size (.slice (some ⟨bb, 0, none⟩) 0 0) [] rfl hu.2.1 ps ns cs rs rfl (SX.out.below (EW.out.trans (Below.mono hu.1 EW.out.size))) (by omega) (by simp; omega) hu.1.size ?_
      intro v3 u1 o3 g3
      have E1 := Lib.hid (show Ext W u1 from bel_grownS hu.1 hu.2.1 g3 hu.1.size)
      have D1 := Lib.hid (show (SyD W b6) u1 from ⟨(g3.block _ hu.2.2.1.lt (fun e => own_ne2 hu.2.1 hu.2.2.1 e.symm)).trans hu.2.2.1, hu.2.2.2⟩)
      have o3' : OwnS u1 W.heap.size v3 rs := o3
      clear g3 hu
      obtain ⟨g, cg, hv3, _, _, _, _⟩ := o3'.rows (by rw [← HNs.out]; omega)
      rw [← HNs.out] at hv3
      subst hv3
      have Y1 := Lib.hid (show SyR W g ns cg rs u1 from o3')
      clear o3 o3'
      go_wp2_with fail
      change ∃ C' : World → Prop, _ ∧ _ ∧ _ ∧ anyU _ _ _ _ _ _ 2 _ _ _
      refine anchorF (fun y => Ext W y ∧ (SyR W g ns cg rs) y ∧ (SyD W b6) y) (fun y hy => hy.1) ((Ext.stable W).and (Stable.and (syR_st W g ns cg rs) (syD_st W b6))) ⟨E1.out, Y1.out, D1.out⟩ ?_
      (try simp only [Act.put])
      clear E1 Y1 D1
      refine anyU_takeD (i := 6) (v := .agg (dskC (some ⟨g, 0, none⟩) ns cg none 0 0 (-1) false)) 38 rfl rfl (by kernel_rfl) (by kernel_rfl) (by kernel_rfl) (fun _ _ _ h => h) (by kernel_rfl) ((Ext.stable W).and (Stable.and (syR_st W g ns cg rs) (syD_st W b6))) (fun y hy => hy.1) (yieldsU_val rfl (fun u hu => by go_simp)) ?_
      refine anyU_tail 8 [] rfl rfl (by decide) (by kernel_rfl) ?_
      intro u2 hu2
      simp only [Act.put, List.filterMap_cons, List.filterMap_nil, List.getElem?_cons_succ, List.getElem?_cons_zero]
      have b0 := hu2.2.2.1
      obtain ⟨d0, d1, d2, d3, ld⟩ := blk4_facts b0
      have f0 := b0.frozen 0; have f1 := b0.frozen 1; have f2 := b0.frozen 2; have f3 := b0.frozen 3
      obtain ⟨g', cg', hg, hg1, hg2, hg3, hg4⟩ := OwnS.rows hu2.2.1 (by rw [← HNs.out]; omega)
      rw [← HNs.out] at hg hg1
      simp at hg
      obtain ⟨rfl, rfl⟩ := hg
      have hne : g ≠ b6 := fun e => own_ne2 hu2.2.1 b0 (by rw [← e]; rfl)
      have XB := ((((b0.set 0 (.slice (some ⟨g, 0, none⟩) ns cg)).set 1 (.slice none 0 0)).set 2 (.int .i64 (-1))).set 3 (.bool false))
      have XR := ((((hg4.other (b' := b6) (o := 0) (v := .slice (some ⟨g, 0, none⟩) ns cg) hne).other (b' := b6) (o := 1) (v := .slice none 0 0) hne).other (b' := b6) (o := 2) (v := .int .i64 (-1)) hne).other (b' := b6) (o := 3) (v := .bool false) hne)
      have XE := ((((Below.setCell hu2.1 (p := ⟨b6, 0, none⟩) hu2.2.2.2 (.slice (some ⟨g, 0, none⟩) ns cg)).setCell (p := ⟨b6, 1, none⟩) hu2.2.2.2 (.slice none 0 0)).setCell (p := ⟨b6, 2, none⟩) hu2.2.2.2 (.int .i64 (-1))).setCell (p := ⟨b6, 3, none⟩) hu2.2.2.2 (.bool false))
      have hb6 := hu2.2.2.2
      clear hu2
      go_wp2_with fail
      go_meet
      exact ⟨b6, g, cg, rfl, Lib.hid ⟨XB, XR, hg1, hg2, hne, Nat.le_trans EW.out.size hb6, Nat.le_trans EW.out.size hg3, EW.out.trans (Below.mono XE EW.out.size)⟩⟩
  case rest =>
    obtain ⟨x, g, c, rfl, HC0⟩ := hcut
    obtain ⟨X5', R5', hcc, hcc2, hgx, hx1, hg1, E5⟩ := HC0.out
    have X5 := Lib.hid X5'
    have R5 := Lib.hid R5'
    have V5 := Lib.hid (V1.out.below E5 V1.out.lt)
    have Z5 := Lib.hid (Z1.out.below E5 Z1.out.lt)
    have B5 := Lib.hid (B1.out.trans (E5.mono B1.out.size))
    clear HC0 X5' R5' E5 c0 c1 c2 c3 lb SX
    go_wp2_with fail
    go_loopw [7] (fun i wr => ∃ k : Nat, k ≤ 0 ∧ i = .int .i64 k ∧ Hid (RowsIn wr g (setRows rs (ws.take k))) ∧ Hid (Blk wr x (dskC (some ⟨g, 0, none⟩) ns c none 0 0 (-1) false) 25) ∧ Hid (Blk wr (w.heap.size + 1) #[.slice none 0 0, .slice none 0 0, .int .i64 0, .bool false] 25) ∧ Hid (Blk wr w.heap.size (dskC ps ns cs none 0 0 (-1) false) 25) ∧ Hid (Below w.heap.size w wr)) (fun i _ => 0 - (intOf i).toNat)
    case atStart => exact ⟨0, by omega, rfl, Lib.hid (by rw [List.take_zero]; exact R5.out), X5, Z5, V5, B5⟩
    case round =>
      obtain ⟨k, hk, rfl, HR, HXX, HZ, HVx, HB⟩ := hrel
      clear R5 X5 Z5 V5 B5
      obtain rfl : k = 0 := by omega
      obtain ⟨c0, c1, c2, c3, lb⟩ := blk4_facts HXX.out
      obtain ⟨d0, d1, d2, d3, ld⟩ := blk4_facts HZ.out
      have f0 := HZ.out.frozen 0; have f1 := HZ.out.frozen 1; have f2 := HZ.out.frozen 2; have f3 := HZ.out.frozen 3
      have q2 := HXX.out.frozen 2
      go_wp2_with fail
      refine bodyPost_ret (v := .tuple #[.agg (dskC (some ⟨g, 0, none⟩) ns c none 0 0 (-1) false), .int .i64 0]) ?_ rfl ⟨?_, ?_⟩
      · rw [results_cell_tmp rfl]; go_simp
      · have hw0 : ∀ r ∈ setRows rs ws, RwOk w r ∧ r.m = 128 := setRows_all (q := fun r => RwOk w r ∧ r.m = 128) ws rs (fun r hr => ⟨hz.out.1.2.2.1 r hr, HV.out.2.1 r hr⟩) (fun x hx => ⟨(hz.out.2.1.2.2.1 x hx).2, (HV.out.2.2.1 x hx).2⟩)
        have ht : ws.take 0 = ws := List.take_of_length_le (by have := HNp.out; omega)
        have hR := HR.out
        rw [ht] at hR
        have hs : stopB (-1) ws.length = false := by unfold stopB; have := HNp.out; simp; try omega
        refine isSyn (rows := setRows rs ws) ?_ (by rw [setRows_len, HNs.out]) hns.1 hcc hcc2 (fun r hr => (hw0 r hr).1.below ?_) (fun r hr => (hw0 r hr).2) ?_ ?_ hs (by rw [hs]; rfl) (by omega) (fun b _ q1 q2 => setRows_all (q := fun r => SepR r b) ws rs q1 q2)
        · (iterate 4 (refine RowsIn.other ?_ (by omega))); exact hR
        · (iterate 4 (refine Below.setCell ?_ (by simp <;> omega) _)); exact HB.out
        · unfold synB; rw [hs, setRows_map]; rfl
        · unfold synL; rw [hs]; have := HNp.out; simp; try omega
      · (iterate 4 (refine Below.setCell ?_ (by simp <;> omega) _)); exact HB.out

set_option maxRecDepth 100000 in
set_option maxHeartbeats 4000000 in
theorem rsync_n2 (lf : Nat) (ps : Option Addr) (ns cs : Nat) (rs : List Rw) (ws : List Wt) (w : World) (hz : Hid (DskV w ps ns none 0 (lf : Int) rs ws)) (hq : Hid (runB (lf : Int) false rs ws = true)) (hp1 : 0 ≤ 0) (hp2 : 0 ≤ 9223372036854775807) :
    Calls Try.prog 24 #[.agg (dskC ps ns cs none 0 0 (lf : Int) false)] w fun e w' => IsSyn w.heap.size ns rs ws (lf : Int) w' e ∧ Below w.heap.size w w' := by
  have V0 := Lib.hid (Blk.new w (dskC ps ns cs none 0 0 (lf : Int) false) 25)
  have h1 := Lib.hid (bel_alloc1 w (.cells (dskC ps ns cs none 0 0 (lf : Int) false) 25))
  have VW := Lib.hid (V0.out.alloc (.cells #[.slice none 0 0, .slice none 0 0, .int .i64 0, .bool false] 25))
  have ZW := Lib.hid (Blk.new (w.alloc (.cells (dskC ps ns cs none 0 0 (lf : Int) false) 25)) #[.slice none 0 0, .slice none 0 0, .int .i64 0, .bool false] 25)
  have h2 := Lib.hid (h1.out.alloc h1.out.size (.cells #[.slice none 0 0, .slice none 0 0, .int .i64 0, .bool false] 25))
  have H0 := Lib.hid (hz.out.below h2.out)
  have m1 := hz.out.1.2.1
  have m2 := hz.out.2.1.2.1
  obtain ⟨N, hN⟩ : ∃ N, (w.alloc (.cells (dskC ps ns cs none 0 0 (lf : Int) false) 25)).heap.size = N := ⟨_, rfl⟩
  have hNe : N = w.heap.size + 1 := by rw [← hN]; simp
  rw [hN] at ZW
  subst hNe
  clear hN
  have HC := Lib.hid (chk_yes (run_chk hq.out))
  have HNs := Lib.hid hz.out.1.1
  have HNp := Lib.hid hz.out.2.1.1
  have HV := Lib.hid (run_facts hq.out)
  have hns : ns ≤ 4096 ∧ 1 ≤ ns := by have := HV.out.1; have := HNs.out; omega
  have hlb : (lf : Int) ≤ 65536 := by have := HV.out.1; omega
  have hlb2 : lf ≤ 65536 := by omega
  have hdl : decide (lf < 0) = false := by simp; try omega
  go_enter Try.func24, Try.ntmps24
  go_wp2_with fail
  refine (rcheck_any ps ns cs none 0 0 (lf : Int) false rs ws _ H0).mono ?_; rintro e w1 ⟨rfl, hb⟩
  have V1 := Lib.hid (VW.out.below hb VW.out.lt)
  have Z1 := Lib.hid (ZW.out.below hb ZW.out.lt)
  have B1 := Lib.hid (h2.out.trans (hb.mono h2.out.size)); clear hb
  obtain ⟨c0, c1, c2, c3, lb⟩ := blk4_facts V1.out
  rw [HC.out]
  have SX := Lib.hid (hz.out.1.below B1.out)
  have hw1 : w.heap.size + 1 < w1.heap.size := Z1.out.lt
  go_upto_region 7 with fail
  go_cut [6] (fun s6 wx => ∃ x g c, s6 = .pointer (some ⟨x, 0, none⟩) ∧ Hid (Blk wx x (dskC (some ⟨g, 0, none⟩) ns c none 0 0 (lf : Int) false) 25 ∧ RowsIn wx g rs ∧ ns ≤ c ∧ c ≤ 9223372036854775807 ∧ g ≠ x ∧ w1.heap.size ≤ x ∧ w1.heap.size ≤ g ∧ Below w1.heap.size w1 wx))
  case first =>
    refine wp_region_any (by kernel_rfl) ?_
    change wpAny _ _ _ _ _ _ _ (World.drew _)
    generalize hWD : World.drew _ = W
    have VX := Lib.hid (show Blk W w.heap.size (dskC ps ns cs none 0 0 (lf : Int) false) 25 by rw [← hWD]; exact V1.out)
    have EW := Lib.hid (show Below w1.heap.size w1 W by rw [← hWD]; exact (Below.refl _ _).drew)
    clear hWD
    refine region_U (D := Ext W) (fun y => Ext W y ∧ (fun _ => True) y ∧ (fun _ => True) y) [8] ⟨Ext.refl W, trivial, trivial⟩ ?_
    refine anyU_takeD (i := 1) (v := .pointer (some ⟨w.heap.size, 0, none⟩)) 33 rfl rfl (by kernel_rfl) (by kernel_rfl) (by kernel_rfl) (fun _ _ _ h => h) (by kernel_rfl) ((Ext.stable W).and (Stable.and tr_st tr_st)) (fun y hy => hy.1) (yieldsU_val rfl (fun u hu => by go_simp)) ?_
    refine anyU_takeD (i := 2) (v := .slice ps ns cs) 34 rfl rfl (by kernel_rfl) (by kernel_rfl) (by kernel_rfl) (fun _ _ _ h => h) (by kernel_rfl) ((Ext.stable W).and (Stable.and tr_st tr_st)) (fun y hy => hy.1) (yieldsU_val rfl (fun u hu => by have c := (VX.out.below hu VX.out.lt).cell 0; go_simp)) ?_
    refine anyU_takeD (i := 4) (v := .pointer (some ⟨w.heap.size, 2, none⟩)) 36 rfl rfl (by kernel_rfl) (by kernel_rfl) (by kernel_rfl) (fun _ _ _ h => h) (by kernel_rfl) ((Ext.stable W).and (Stable.and tr_st tr_st)) (fun y hy => hy.1) (yieldsU_val rfl (fun u hu => by go_simp)) ?_
    refine anyU_takeD (i := 5) (v := .int .i64 (lf : Int)) 37 rfl rfl (by kernel_rfl) (by kernel_rfl) (by kernel_rfl) (fun _ _ _ h => h) (by kernel_rfl) ((Ext.stable W).and (Stable.and tr_st tr_st)) (fun y hy => hy.1) (yieldsU_val rfl (fun u hu => by have c := (VX.out.below hu VX.out.lt).cell 2; simp at c; go_simp)) ?_
    simp only [Act.put, List.setIfInBounds_toArray, List.set_cons_succ, List.set_cons_zero]
    refine anyU_two 0 7 4 _ _ rfl rfl rfl rfl (by kernel_rfl) ?a07 ?b07
    case a07 =>
      intro u hu
      go_wp2_with fail
      change ∃ C' : World → Prop, _ ∧ _ ∧ _ ∧ anyU _ _ _ _ _ _ 4 _ _ _
      have hb1 : Below u.heap.size u (u.alloc (.cells #[] 35)) := bel_alloc1 u _
      have Y1 := Lib.hid (show OwnS _ W.heap.size _ [] from ownS_empty u W.heap.size hu.1.size)
      have E1 := Lib.hid (Ext.trans hu.1 hb1)
      have D1 := Lib.hid (tr_st _ _ hu.2.2 hb1)
      generalize World.alloc u _ = u1 at Y1 E1 D1 hb1 ⊢
      generalize u.heap.size = bb at Y1 ⊢
      clear hu hb1
      refine anchorF (fun y => Ext W y ∧ (SyA W bb) y ∧ (fun _ => True) y) (fun y hy => hy.1) ((Ext.stable W).and (Stable.and (syA_st W bb) tr_st)) ⟨E1.out, Y1.out, D1.out⟩ ?_
      (try simp only [Act.put])
      clear E1 Y1 D1
      refine anyU_two 3 7 3 _ _ rfl rfl rfl rfl (by kernel_rfl) ?a37 ?b37
      case a37 =>
        intro u hu
        refine appSs rfl (.tmp 32) (.tmp 34) rfl W.heap.size (.slice (some ⟨bb, 0, none⟩) 0 0) [] rfl hu.2.1 ps ns cs rs rfl (SX.out.below (EW.out.trans (Below.mono hu.1 EW.out.size))) (by omega) (by simp; omega) hu.1.size ?_
        intro v3 u1 o3 g3
        have E1 := Lib.hid (show Ext W u1 from bel_grownS hu.1 hu.2.1 g3 hu.1.size)
        have D1 := Lib.hid (show (fun _ => True) u1 from trivial)
        have o3' : OwnS u1 W.heap.size v3 rs := o3
        clear g3 hu
        obtain ⟨g, cg, hv3, _, _, _, _⟩ := o3'.rows (by rw [← HNs.out]; omega)
        rw [← HNs.out] at hv3
        subst hv3
        have Y1 := Lib.hid (show SyR W g ns cg rs u1 from o3')
        clear o3 o3'
        go_wp2_with fail
        change ∃ C' : World → Prop, _ ∧ _ ∧ _ ∧ anyU _ _ _ _ _ _ 3 _ _ _
        refine anchorF (fun y => Ext W y ∧ (SyR W g ns cg rs) y ∧ (fun _ => True) y) (fun y hy => hy.1) ((Ext.stable W).and (Stable.and (syR_st W g ns cg rs) tr_st)) ⟨E1.out, Y1.out, D1.out⟩ ?_
        (try simp only [Act.put])
        clear E1 Y1 D1
        refine anyU_takeD (i := 6) (v := .agg (dskC (some ⟨g, 0, none⟩) ns cg none 0 0 (lf : Int) false)) 38 rfl rfl (by kernel_rfl) (by kernel_rfl) (by kernel_rfl) (fun _ _ _ h => h) (by kernel_rfl) ((Ext.stable W).and (Stable.and (syR_st W g ns cg rs) tr_st)) (fun y hy => hy.1) (yieldsU_val rfl (fun u hu => by go_simp)) ?_
        refine anyU_one 7 1 _ rfl rfl (by kernel_rfl) ?_
        intro u hu
        go_wp2_with fail
        change ∃ C' : World → Prop, _ ∧ _ ∧ _ ∧ anyU _ _ _ _ _ _ 1 _ _ _
        have hb1 : Below u.heap.size u (u.alloc (.cells #[.slice none 0 0, .slice none 0 0, .int .i64 0, .bool false] 25)) := bel_alloc1 u _
        have Y1 := Lib.hid (show SyD W u.heap.size _ from ⟨Blk.new u #[.slice none 0 0, .slice none 0 0, .int .i64 0, .bool false] 25, hu.1.size⟩)
        have E1 := Lib.hid (Ext.trans hu.1 hb1)
        have D1 := Lib.hid ((syR_st W g ns cg rs) _ _ hu.2.1 hb1)
        generalize World.alloc u _ = u1 at Y1 E1 D1 hb1 ⊢
        generalize u.heap.size = b6 at Y1 ⊢
        clear hu hb1
        refine anchorF (fun y => Ext W y ∧ (SyR W g ns cg rs) y ∧ (SyD W b6) y) (fun y hy => hy.1) ((Ext.stable W).and (Stable.and (syR_st W g ns cg rs) (syD_st W b6))) ⟨E1.out, D1.out, Y1.out⟩ ?_
        (try simp only [Act.put])
        clear E1 Y1 D1
        refine anyU_tail 8 [] rfl rfl (by decide) (by kernel_rfl) ?_
        intro u2 hu2
        simp only [Act.put, List.filterMap_cons, List.filterMap_nil, List.getElem?_cons_succ, List.getElem?_cons_zero]
        have b0 := hu2.2.2.1
        obtain ⟨d0, d1, d2, d3, ld⟩ := blk4_facts b0
        have f0 := b0.frozen 0; have f1 := b0.frozen 1; have f2 := b0.frozen 2; have f3 := b0.frozen 3
        obtain ⟨g', cg', hg, hg1, hg2, hg3, hg4⟩ := OwnS.rows hu2.2.1 (by rw [← HNs.out]; omega)
        rw [← HNs.out] at hg hg1
        simp at hg
        obtain ⟨rfl, rfl⟩ := hg
        have hne : g ≠ b6 := fun e => own_ne2 hu2.2.1 b0 (by rw [← e]; rfl)
        have XB := ((((b0.set 0 (.slice (some ⟨g, 0, none⟩) ns cg)).set 1 (.slice none 0 0)).set 2 (.int .i64 (lf : Int))).set 3 (.bool false))
        have XR := ((((hg4.other (b' := b6) (o := 0) (v := .slice (some ⟨g, 0, none⟩) ns cg) hne).other (b' := b6) (o := 1) (v := .slice none 0 0) hne).other (b' := b6) (o := 2) (v := .int .i64 (lf : Int)) hne).other (b' := b6) (o := 3) (v := .bool false) hne)
        have XE := ((((Below.setCell hu2.1 (p := ⟨b6, 0, none⟩) hu2.2.2.2 (.slice (some ⟨g, 0, none⟩) ns cg)).setCell (p := ⟨b6, 1, none⟩) hu2.2.2.2 (.slice none 0 0)).setCell (p := ⟨b6, 2, none⟩) hu2.2.2.2 (.int .i64 (lf : Int))).setCell (p := ⟨b6, 3, none⟩) hu2.2.2.2 (.bool false))
        have hb6 := hu2.2.2.2
        clear hu2
        go_wp2_with fail
        go_meet
        exact ⟨b6, g, cg, rfl, Lib.hid ⟨XB, XR, hg1, hg2, hne, Nat.le_trans EW.out.size hb6, Nat.le_trans EW.out.size hg3, EW.out.trans (Below.mono XE EW.out.size)⟩⟩
      case b37 =>
        intro u hu
        go_wp2_with fail
        change ∃ C' : World → Prop, _ ∧ _ ∧ _ ∧ anyU _ _ _ _ _ _ 3 _ _ _
        have hb1 : Below u.heap.size u (u.alloc (.cells #[.slice none 0 0, .slice none 0 0, .int .i64 0, .bool false] 25)) := bel_alloc1 u _
        have Y1 := Lib.hid (show SyD W u.heap.size _ from ⟨Blk.new u #[.slice none 0 0, .slice none 0 0, .int .i64 0, .bool false] 25, hu.1.size⟩)
        have E1 := Lib.hid (Ext.trans hu.1 hb1)
        have D1 := Lib.hid ((syA_st W bb) _ _ hu.2.1 hb1)
        generalize World.alloc u _ = u1 at Y1 E1 D1 hb1 ⊢
        generalize u.heap.size = b6 at Y1 ⊢
        clear hu hb1
        refine anchorF (fun y => Ext W y ∧ (SyA W bb) y ∧ (SyD W b6) y) (fun y hy => hy.1) ((Ext.stable W).and (Stable.and (syA_st W bb) (syD_st W b6))) ⟨E1.out, D1.out, Y1.out⟩ ?_
        (try simp only [Act.put])
        clear E1 Y1 D1
        refine anyU_one 3 2 _ rfl rfl (by kernel_rfl) ?_
        intro u hu
        refine appSs rfl (.tmp 32) (.tmp 34) rfl W.heap.size (.slice (some ⟨bb, 0, none⟩) 0 0) [] rfl hu.2.1 ps ns cs rs rfl (SX.out.below (EW.out.trans (Below.mono hu.1 EW.out.size))) (by omega) (by simp; omega) hu.1.size ?_
        intro v3 u1 o3 g3
        have E1 := Lib.hid (show Ext W u1 from bel_grownS hu.1 hu.2.1 g3 hu.1.size)
        have D1 := Lib.hid (show (SyD W b6) u1 from ⟨(g3.block _ hu.2.2.1.lt (fun e => own_ne2 hu.2.1 hu.2.2.1 e.symm)).trans hu.2.2.1, hu.2.2.2⟩)
        have o3' : OwnS u1 W.heap.size v3 rs := o3
        clear g3 hu
        obtain ⟨g, cg, hv3, _, _, _, _⟩ := o3'.rows (by rw [← HNs.out]; omega)
        rw [← HNs.out] at hv3
        subst hv3
        have Y1 := Lib.hid (show SyR W g ns cg rs u1 from o3')
        clear o3 o3'
        go_wp2_with fail
        change ∃ C' : World → Prop, _ ∧ _ ∧ _ ∧ anyU _ _ _ _ _ _ 2 _ _ _
        refine anchorF (fun y => Ext W y ∧ (SyR W g ns cg rs) y ∧ (SyD W b6) y) (fun y hy => hy.1) ((Ext.stable W).and (Stable.and (syR_st W g ns cg rs) (syD_st W b6))) ⟨E1.out, Y1.out, D1.out⟩ ?_
        (try simp only [Act.put])
        clear E1 Y1 D1
        refine anyU_takeD (i := 6) (v := .agg (dskC (some ⟨g, 0, none⟩) ns cg none 0 0 (lf : Int) false)) 38 rfl rfl (by kernel_rfl) (by kernel_rfl) (by kernel_rfl) (fun _ _ _ h => h) (by kernel_rfl) ((Ext.stable W).and (Stable.and (syR_st W g ns cg rs) (syD_st W b6))) (fun y hy => hy.1) (yieldsU_val rfl (fun u hu => by go_simp)) ?_
        refine anyU_tail 8 [] rfl rfl (by decide) (by kernel_rfl) ?_
        intro u2 hu2
        simp only [Act.put, List.filterMap_cons, List.filterMap_nil, List.getElem?_cons_succ, List.getElem?_cons_zero]
        have b0 := hu2.2.2.1
        obtain ⟨d0, d1, d2, d3, ld⟩ := blk4_facts b0
        have f0 := b0.frozen 0; have f1 := b0.frozen 1; have f2 := b0.frozen 2; have f3 := b0.frozen 3
        obtain ⟨g', cg', hg, hg1, hg2, hg3, hg4⟩ := OwnS.rows hu2.2.1 (by rw [← HNs.out]; omega)
        rw [← HNs.out] at hg hg1
        simp at hg
        obtain ⟨rfl, rfl⟩ := hg
        have hne : g ≠ b6 := fun e => own_ne2 hu2.2.1 b0 (by rw [← e]; rfl)
        have XB := ((((b0.set 0 (.slice (some ⟨g, 0, none⟩) ns cg)).set 1 (.slice none 0 0)).set 2 (.int .i64 (lf : Int))).set 3 (.bool false))
        have XR := ((((hg4.other (b' := b6) (o := 0) (v := .slice (some ⟨g, 0, none⟩) ns cg) hne).other (b' := b6) (o := 1) (v := .slice none 0 0) hne).other (b' := b6) (o := 2) (v := .int .i64 (lf : Int)) hne).other (b' := b6) (o := 3) (v := .bool false) hne)
        have XE := ((((Below.setCell hu2.1 (p := ⟨b6, 0, none⟩) hu2.2.2.2 (.slice (some ⟨g, 0, none⟩) ns cg)).setCell (p := ⟨b6, 1, none⟩) hu2.2.2.2 (.slice none 0 0)).setCell (p := ⟨b6, 2, none⟩) hu2.2.2.2 (.int .i64 (lf : Int))).setCell (p := ⟨b6, 3, none⟩) hu2.2.2.2 (.bool false))
        have hb6 := hu2.2.2.2
        clear hu2
        go_wp2_with fail
        go_meet
        exact ⟨b6, g, cg, rfl, Lib.hid ⟨XB, XR, hg1, hg2, hne, Nat.le_trans EW.out.size hb6, Nat.le_trans EW.out.size hg3, EW.out.trans (Below.mono XE EW.out.size)⟩⟩
    case b07 =>
      intro u hu
      go_wp2_with fail
      change ∃ C' : World → Prop, _ ∧ _ ∧ _ ∧ anyU _ _ _ _ _ _ 4 _ _ _
      have hb1 : Below u.heap.size u (u.alloc (.cells #[.slice none 0 0, .slice none 0 0, .int .i64 0, .bool false] 25)) := bel_alloc1 u _
      have Y1 := Lib.hid (show SyD W u.heap.size _ from ⟨Blk.new u #[.slice none 0 0, .slice none 0 0, .int .i64 0, .bool false] 25, hu.1.size⟩)
      have E1 := Lib.hid (Ext.trans hu.1 hb1)
      have D1 := Lib.hid (tr_st _ _ hu.2.1 hb1)
      generalize World.alloc u _ = u1 at Y1 E1 D1 hb1 ⊢
      generalize u.heap.size = b6 at Y1 ⊢
      clear hu hb1
      refine anchorF (fun y => Ext W y ∧ (fun _ => True) y ∧ (SyD W b6) y) (fun y hy => hy.1) ((Ext.stable W).and (Stable.and tr_st (syD_st W b6))) ⟨E1.out, D1.out, Y1.out⟩ ?_
      (try simp only [Act.put])
      clear E1 Y1 D1
      refine anyU_one 0 3 _ rfl rfl (by kernel_rfl) ?_
      intro u hu
      go_wp2_with fail
      change ∃ C' : World → Prop, _ ∧ _ ∧ _ ∧ anyU _ _ _ _ _ _ 3 _ _ _
      have hb1 : Below u.heap.size u (u.alloc (.cells #[] 35)) := bel_alloc1 u _
      have Y1 := Lib.hid (show OwnS _ W.heap.size _ [] from ownS_empty u W.heap.size hu.1.size)
      have E1 := Lib.hid (Ext.trans hu.1 hb1)
      have D1 := Lib.hid ((syD_st W b6) _ _ hu.2.2 hb1)
      generalize World.alloc u _ = u1 at Y1 E1 D1 hb1 ⊢
      generalize u.heap.size = bb at Y1 ⊢
      clear hu hb1
      refine anchorF (fun y => Ext W y ∧ (SyA W bb) y ∧ (SyD W b6) y) (fun y hy => hy.1) ((Ext.stable W).and (Stable.and (syA_st W bb) (syD_st W b6))) ⟨E1.out, Y1.out, D1.out⟩ ?_
      (try simp only [Act.put])
      clear E1 Y1 D1
      refine anyU_one 3 2 _ rfl rfl (by kernel_rfl) ?_
      intro u hu
      refine appSs rfl (.tmp 32) (.tmp 34) rfl W.heap.size (.slice (some ⟨bb, 0, none⟩) 0 0) [] rfl hu.2.1 ps ns cs rs rfl (SX.out.below (EW.out.trans (Below.mono hu.1 EW.out.size))) (by omega) (by simp; omega) hu.1.size ?_
      intro v3 u1 o3 g3
      have E1 := Lib.hid (show Ext W u1 from bel_grownS hu.1 hu.2.1 g3 hu.1.size)
      have D1 := Lib.hid (show (SyD W b6) u1 from ⟨(g3.block _ hu.2.2.1.lt (fun e => own_ne2 hu.2.1 hu.2.2.1 e.symm)).trans hu.2.2.1, hu.2.2.2⟩)
      have o3' : OwnS u1 W.heap.size v3 rs := o3
      clear g3 hu
      obtain ⟨g, cg, hv3, _, _, _, _⟩ := o3'.rows (by rw [← HNs.out]; omega)
      rw [← HNs.out] at hv3
      subst hv3
      have Y1 := Lib.hid (show SyR W g ns cg rs u1 from o3')
      clear o3 o3'
      go_wp2_with fail
      change ∃ C' : World → Prop, _ ∧ _ ∧ _ ∧ anyU _ _ _ _ _ _ 2 _ _ _
      refine anchorF (fun y => Ext W y ∧ (SyR W g ns cg rs) y ∧ (SyD W b6) y) (fun y hy => hy.1) ((Ext.stable W).and (Stable.and (syR_st W g ns cg rs) (syD_st W b6))) ⟨E1.out, Y1.out, D1.out⟩ ?_
      (try simp only [Act.put])
      clear E1 Y1 D1
      refine anyU_takeD (i := 6) (v := .agg (dskC (some ⟨g, 0, none⟩) ns cg none 0 0 (lf : Int) false)) 38 rfl rfl (by kernel_rfl) (by kernel_rfl) (by kernel_rfl) (fun _ _ _ h => h) (by kernel_rfl) ((Ext.stable W).and (Stable.and (syR_st W g ns cg rs) (syD_st W b6))) (fun y hy => hy.1) (yieldsU_val rfl (fun u hu => by go_simp)) ?_
      refine anyU_tail 8 [] rfl rfl (by decide) (by kernel_rfl) ?_
      intro u2 hu2
      simp only [Act.put, List.filterMap_cons, List.filterMap_nil, List.getElem?_cons_succ, List.getElem?_cons_zero]
      have b0 := hu2.2.2.1
      obtain ⟨d0, d1, d2, d3, ld⟩ := blk4_facts b0
      have f0 := b0.frozen 0; have f1 := b0.frozen 1; have f2 := b0.frozen 2; have f3 := b0.frozen 3
      obtain ⟨g', cg', hg, hg1, hg2, hg3, hg4⟩ := OwnS.rows hu2.2.1 (by rw [← HNs.out]; omega)
      rw [← HNs.out] at hg hg1
      simp at hg
      obtain ⟨rfl, rfl⟩ := hg
      have hne : g ≠ b6 := fun e => own_ne2 hu2.2.1 b0 (by rw [← e]; rfl)
      have XB := ((((b0.set 0 (.slice (some ⟨g, 0, none⟩) ns cg)).set 1 (.slice none 0 0)).set 2 (.int .i64 (lf : Int))).set 3 (.bool false))
      have XR := ((((hg4.other (b' := b6) (o := 0) (v := .slice (some ⟨g, 0, none⟩) ns cg) hne).other (b' := b6) (o := 1) (v := .slice none 0 0) hne).other (b' := b6) (o := 2) (v := .int .i64 (lf : Int)) hne).other (b' := b6) (o := 3) (v := .bool false) hne)
      have XE := ((((Below.setCell hu2.1 (p := ⟨b6, 0, none⟩) hu2.2.2.2 (.slice (some ⟨g, 0, none⟩) ns cg)).setCell (p := ⟨b6, 1, none⟩) hu2.2.2.2 (.slice none 0 0)).setCell (p := ⟨b6, 2, none⟩) hu2.2.2.2 (.int .i64 (lf : Int))).setCell (p := ⟨b6, 3, none⟩) hu2.2.2.2 (.bool false))
      have hb6 := hu2.2.2.2
      clear hu2
      go_wp2_with fail
      go_meet
      exact ⟨b6, g, cg, rfl, Lib.hid ⟨XB, XR, hg1, hg2, hne, Nat.le_trans EW.out.size hb6, Nat.le_trans EW.out.size hg3, EW.out.trans (Below.mono XE EW.out.size)⟩⟩
  case rest =>
    obtain ⟨x, g, c, rfl, HC0⟩ := hcut
    obtain ⟨X5', R5', hcc, hcc2, hgx, hx1, hg1, E5⟩ := HC0.out
    have X5 := Lib.hid X5'
    have R5 := Lib.hid R5'
    have V5 := Lib.hid (V1.out.below E5 V1.out.lt)
    have Z5 := Lib.hid (Z1.out.below E5 Z1.out.lt)
    have B5 := Lib.hid (B1.out.trans (E5.mono B1.out.size))
    clear HC0 X5' R5' E5 c0 c1 c2 c3 lb SX
    go_wp2_with fail
    go_loopw [7] (fun i wr => ∃ k : Nat, k ≤ 0 ∧ i = .int .i64 k ∧ Hid (RowsIn wr g (setRows rs (ws.take k))) ∧ Hid (Blk wr x (dskC (some ⟨g, 0, none⟩) ns c none 0 0 (lf : Int) false) 25) ∧ Hid (Blk wr (w.heap.size + 1) #[.slice none 0 0, .slice none 0 0, .int .i64 0, .bool false] 25) ∧ Hid (Blk wr w.heap.size (dskC ps ns cs none 0 0 (lf : Int) false) 25) ∧ Hid (Below w.heap.size w wr)) (fun i _ => 0 - (intOf i).toNat)
    case atStart => exact ⟨0, by omega, rfl, Lib.hid (by rw [List.take_zero]; exact R5.out), X5, Z5, V5, B5⟩
    case round =>
      obtain ⟨k, hk, rfl, HR, HXX, HZ, HVx, HB⟩ := hrel
      clear R5 X5 Z5 V5 B5
      obtain rfl : k = 0 := by omega
      obtain ⟨c0, c1, c2, c3, lb⟩ := blk4_facts HXX.out
      obtain ⟨d0, d1, d2, d3, ld⟩ := blk4_facts HZ.out
      have f0 := HZ.out.frozen 0; have f1 := HZ.out.frozen 1; have f2 := HZ.out.frozen 2; have f3 := HZ.out.frozen 3
      have q2 := HXX.out.frozen 2
      go_wp2_with fail
      refine bodyPost_ret (v := .tuple #[.agg (dskC (some ⟨g, 0, none⟩) ns c none 0 0 (lf : Int) false), .int .i64 0]) ?_ rfl ⟨?_, ?_⟩
      · rw [results_cell_tmp rfl]; go_simp
      · have hw0 : ∀ r ∈ setRows rs ws, RwOk w r ∧ r.m = 128 := setRows_all (q := fun r => RwOk w r ∧ r.m = 128) ws rs (fun r hr => ⟨hz.out.1.2.2.1 r hr, HV.out.2.1 r hr⟩) (fun x hx => ⟨(hz.out.2.1.2.2.1 x hx).2, (HV.out.2.2.1 x hx).2⟩)
        have ht : ws.take 0 = ws := List.take_of_length_le (by have := HNp.out; omega)
        have hR := HR.out
        rw [ht] at hR
        have hs : stopB (lf : Int) ws.length = false := by unfold stopB; have := HNp.out; simp; try omega
        refine isSyn (rows := setRows rs ws) ?_ (by rw [setRows_len, HNs.out]) hns.1 hcc hcc2 (fun r hr => (hw0 r hr).1.below ?_) (fun r hr => (hw0 r hr).2) ?_ ?_ hs (by rw [hs]; rfl) (by omega) (fun b _ q1 q2 => setRows_all (q := fun r => SepR r b) ws rs q1 q2)
        · (iterate 5 (refine RowsIn.other ?_ (by omega))); exact hR
        · (iterate 5 (refine Below.setCell ?_ (by simp <;> omega) _)); exact HB.out
        · unfold synB; rw [hs, setRows_map]; rfl
        · unfold synL; rw [hs]; have := HNp.out; simp; try omega
      · (iterate 5 (refine Below.setCell ?_ (by simp <;> omega) _)); exact HB.out
end Go.Proofs.Ytackklbifppfeaa
