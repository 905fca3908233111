/- For every disk and writes, syncing after each write and syncing after the last one lead to the same disk, unless the disk stops; if it stops, both perform the same writes, and tear the same one. No condition. -/
import Derived.Test.YtackklbifppfeaaDskTog
import Derived.Deep.DeepCutAuto
namespace Go.Proofs.Ytackklbifppfeaa
open Go.ChangeShapes Go.WideShapes Go.ChangeAt Go.RowKit Go.WideElems
set_option linter.unusedVariables false
set_option linter.unusedSimpArgs false

theorem one_rng {c : Int} (h : 0 ≤ c ∧ c ≤ 255) : ∀ z ∈ [c], 0 ≤ z ∧ z ≤ 255 := by
  intro z hz
  obtain rfl : z = c := by simpa using hz
  exact h
theorem blk_one {w : World} {b : Nat} {c : Int} {t : TypeId} (h : Blk w b #[.int .u8 c] t) : SrcV w (some ⟨b, 0, none⟩) 1 1 [c] := by
  refine ⟨rfl, .inr ⟨b, 0, rfl, h.lt, fun j hj => ?_⟩⟩
  obtain rfl : j = 0 := by simpa using hj
  rw [h.cell]; rfl
theorem run_rem2 (a : Int) (n : Nat) (h0 : 0 ≤ a) (h1 : 0 < n) (w : World) : (Op.intDiv .rem .i64 a (n : Int)).run Try.prog w = .ok (.int .i64 (a % (n : Int))) w := by
  have := run_rem a n h0 h1 w
  rwa [binOp_rem] at this
theorem ActsV.lt {w : World} {p : Option Addr} {n : Nat} {qs : List Ac} (h : ActsV w p n qs) (h0 : n ≠ 0) {a : Addr} (ha : p = some a) : a.block < w.heap.size := by
  obtain ⟨h1, h2, h4, h3 | ⟨b', off, rfl, hb, hc⟩⟩ := h
  · exact absurd h3 h0
  · cases ha; exact hb
theorem wrap_u8 {a : Int} (h0 : 0 ≤ a) (h1 : a ≤ 255) : IntKind.i64.wrap a = a := by rw [IntKind.wrap_i64]; omega
theorem ActsV.set {w : World} {p : Option Addr} {n b o : Nat} {v : Value} {qs : List Ac} (h : ActsV w p n qs) (hs : n ≠ 0 → ∀ a, p = some a → a.block ≠ b) : ActsV (w.setCell ⟨b, o, none⟩ v) p n qs := by
  obtain ⟨h1, h2, h4, h3⟩ := h
  refine ⟨h1, h2, h4, ?_⟩
  by_cases h0 : n = 0
  · exact .inl h0
  rcases h3 with h3 | ⟨b', off, rfl, hb, hc⟩
  · exact .inl h3
  · have hne : b' ≠ b := hs h0 _ rfl
    have hk : ∀ j, (w.setCell ⟨b, o, none⟩ v).cell? ⟨b', j, none⟩ = w.cell? ⟨b', j, none⟩ := fun j => World.cell?_of_block (a := ⟨b', j, none⟩) (Below.heap_setCell w ⟨b, o, none⟩ v b' hne)
    exact .inr ⟨b', off, rfl, by simpa using hb, fun j hj => ⟨(hk _).trans (hc j hj).1, (hk _).trans (hc j hj).2.1, (hk _).trans (hc j hj).2.2⟩⟩
set_option maxRecDepth 100000 in
set_option maxHeartbeats 4000000 in
theorem diskTogether_walk (d : Dk) (sp : Option Addr) (sn sc : Nat) (qs : List Ac) (w : World) (D1 : Hid (DkOk w d)) (SA : Hid (ActsV w sp sn qs)) : Calls Try.prog 8 #[.agg d.c, .slice sp sn sc] w fun e w' => e = .returned (.bool true) ∧ Below w.heap.size w w' := by
  go_enter Try.func8, Try.ntmps8
  have BB := Lib.hid (Below.refl w.heap.size w)
  have hb := bel_alloc1 w (.cells d.c 25)
  replace D1 := Lib.hid (D1.out.below hb)
  replace SA := Lib.hid (SA.out.below hb)
  replace BB := Lib.hid (BB.out.trans ((hb).mono BB.out.size))
  clear hb
  have V2 := Lib.hid (Blk.new w d.c 25)
  go_upto_region 1 with fail
  generalize World.alloc w _ = W1 at BB D1 SA V2 ⊢
  generalize w.heap.size = nV2 at V2 ⊢
  go_wp2_with fail
  refine (sane_any _).mono ?_
  rintro e W2 ⟨rfl, hb⟩
  replace D1 := Lib.hid (D1.out.below hb)
  replace SA := Lib.hid (SA.out.below hb)
  replace V2 := Lib.hid (V2.out.below hb V2.out.lt)
  replace BB := Lib.hid (BB.out.trans ((hb).mono BB.out.size))
  clear hb
  have cV20 := V2.out.cell 0
  have cV21 := V2.out.cell 1
  have cV22 := V2.out.cell 2
  have cV23 := V2.out.cell 3
  have lV2 := V2.out.lt
  go_wp2_with fail
  refine (few_L d _ D1).mono ?_
  rintro e W3 ⟨⟨q, rfl⟩, hb⟩
  replace D1 := Lib.hid (D1.out.below hb)
  replace SA := Lib.hid (SA.out.below hb)
  replace V2 := Lib.hid (V2.out.below hb V2.out.lt)
  replace BB := Lib.hid (BB.out.trans ((hb).mono BB.out.size))
  clear hb
  clear cV20 cV21 cV22 cV23 lV2
  cases q with
  | false =>
    have c21 := V2.out.cell 1
    simp at c21
    go_wp2_with fail
    go_ret
    exact ⟨rfl, BB.out⟩
  | true =>
    have hnd := Lib.hid D1.out.lens
    have hm1 := D1.out.1.1.2.1
    have hm2 := D1.out.1.2.1.2.1
    by_cases hn : 20 < sn
    case pos =>
      have c21 := V2.out.cell 1
      simp at c21
      have l2 := V2.out.lt
      go_wp2_with fail
      go_ret
      exact ⟨rfl, BB.out⟩
    case neg =>
    by_cases hp : 0 < d.np
    case pos =>
      have c20 := V2.out.cell 0
      have c21 := V2.out.cell 1
      simp at c20 c21
      have l2 := V2.out.lt
      go_wp2_with fail
      go_ret
      exact ⟨rfl, BB.out⟩
    case neg =>
    by_cases hz : d.ns = 0
    case pos =>
      have hz1 : ((d.ns : Int) == 0) = true := by simp [hz]
      have hz0 := Lib.hid hz
      clear hz
      have c20 := V2.out.cell 0
      have c21 := V2.out.cell 1
      simp at c20 c21
      have l2 := V2.out.lt
      go_wp2_with fail
      go_ret
      exact ⟨rfl, BB.out⟩
    case neg =>
    have hz1 : ((d.ns : Int) == 0) = false := by simp [hz]
    have hns : 0 < d.ns := by omega
    clear hz
    have cV20 := V2.out.cell 0
    have cV21 := V2.out.cell 1
    have cV22 := V2.out.cell 2
    have cV23 := V2.out.cell 3
    have lV2 := V2.out.lt
    go_wp2_with fail
    refine (check_X d _ D1).mono ?_
    rintro e W4 ⟨rfl, hb⟩
    replace D1 := Lib.hid (D1.out.below hb)
    replace SA := Lib.hid (SA.out.below hb)
    replace V2 := Lib.hid (V2.out.below hb V2.out.lt)
    replace BB := Lib.hid (BB.out.trans ((hb).mono BB.out.size))
    clear hb
    clear cV20 cV21 cV22 cV23 lV2
    cases hc : chkB d.left d.rs d.ws with
    | false =>
      rw [chk_no hc]
      have hc0 := Lib.hid hc
      clear hc
      have c23 := V2.out.cell 3
      simp at c23
      have l2 := V2.out.lt
      go_wp2_with fail
      go_ret
      exact ⟨rfl, BB.out⟩
    | true =>
      rw [chk_yes hc]
      have hc0 := Lib.hid hc
      clear hc
      cases hst : d.st with
      | true =>
        have c23 : W4.cell? ⟨nV2, 3, none⟩ = some (.bool true) := by rw [V2.out.cell 3]; show some (Value.bool d.st) = _; rw [hst]
        have hs0 := Lib.hid hst
        clear hst
        have l2 := V2.out.lt
        go_wp2_with fail
        go_ret
        exact ⟨rfl, BB.out⟩
      | false =>
        have c23 : W4.cell? ⟨nV2, 3, none⟩ = some (.bool false) := by rw [V2.out.cell 3]; show some (Value.bool d.st) = _; rw [hst]
        have QD := Lib.hid (show d.run = true by unfold Dk.run runB; rw [hc0.out, hst]; rfl)
        have WD := Lib.hid (show d.ws = [] from List.eq_nil_of_length_eq_zero (by have := hnd.out.2; omega))
        clear hst
        have l2 := V2.out.lt
        obtain ⟨WL, hWL⟩ : ∃ l, qs.map (wOf d.ns) = l := ⟨_, rfl⟩
        have HWL := Lib.hid hWL
        have NWL := Lib.hid (show WL.length = sn by rw [← hWL, List.length_map, ← SA.out.1])
        have hsn : sn ≤ 20 := by omega
        have AW := Lib.hid (fun k (hk : k < sn) => show pbs (WL.getD k wt0) = ((qOf d.ns (qs.getD k ac0) : Int), padR [(qs.getD k ac0).byt]) by
          have h : k < qs.length := by have := SA.out.1; omega
          rw [← hWL]
          simp [h, wOf, pbs])
        clear hWL
        go_upto_region 5 with fail
        clear c23 l2
        go_cut [5, 6] (fun s5 s6 wx => ∃ b5 b6, s5 = .pointer (some ⟨b5, 0, none⟩) ∧ s6 = .pointer (some ⟨b6, 0, none⟩) ∧ Hid (b5 ≠ b6 ∧ nV2 < b5 ∧ nV2 < b6 ∧ w.heap.size ≤ b5 ∧ w.heap.size ≤ b6 ∧ DkSep d b5 ∧ DkSep d b6 ∧ (∀ a, sp = some a → sn ≠ 0 → a.block ≠ b5 ∧ a.block ≠ b6) ∧ Blk wx b5 d.c 25 ∧ Blk wx b6 d.c 25 ∧ Blk wx nV2 d.c 25 ∧ DkOk wx d ∧ ActsV wx sp sn qs ∧ Below w.heap.size w wx))
        case first =>
          refine wp_region_any (by kernel_rfl) ?_
          change wpAny _ _ _ _ _ _ _ (World.drew _)
          generalize hWD : World.drew _ = W
          have V2W := Lib.hid (show Blk W nV2 d.c 25 by rw [← hWD]; exact V2.out)
          have D1W := Lib.hid (show DkOk W d by rw [← hWD]; exact D1.out.below ((Below.refl _ _).drew))
          have SAW := Lib.hid (show ActsV W sp sn qs by rw [← hWD]; exact SA.out.below ((Below.refl _ _).drew))
          have BW := Lib.hid (show Below w.heap.size w W by rw [← hWD]; exact BB.out.drew)
          clear hWD
          have l2 := V2W.out.lt
          have hCD : ∀ u, Ext W u → Ext W u := fun u hu => hu
          refine region_U (D := Ext W) (Ext W) [5] (Ext.refl W) ?_
          refine anyU_takeD (i := 0) (v := .agg d.c) 47 rfl rfl (by kernel_rfl) (by kernel_rfl) (by kernel_rfl) (fun _ _ _ h => h) (by kernel_rfl) (Ext.stable _) hCD (yieldsU_val rfl (fun u hu => by have c := (V2W.out.below hu V2W.out.lt).cell 0; have c1 := (V2W.out.below hu V2W.out.lt).cell 1; have c2 := (V2W.out.below hu V2W.out.lt).cell 2; have c3 := (V2W.out.below hu V2W.out.lt).cell 3; simp at c c1 c2 c3; go_simp)) ?_
          refine anyU_takeD (i := 1) (v := .agg d.c) 48 rfl rfl (by kernel_rfl) (by kernel_rfl) (by kernel_rfl) (fun _ _ _ h => h) (by kernel_rfl) (Ext.stable _) hCD (yieldsU_val rfl (fun u hu => by have c := (V2W.out.below hu V2W.out.lt).cell 0; have c1 := (V2W.out.below hu V2W.out.lt).cell 1; have c2 := (V2W.out.below hu V2W.out.lt).cell 2; have c3 := (V2W.out.below hu V2W.out.lt).cell 3; simp at c c1 c2 c3; go_simp)) ?_
          simp only [Act.put, List.setIfInBounds_toArray, List.set_cons_succ, List.set_cons_zero]
          refine anyU_two 2 3 3 _ _ rfl rfl rfl rfl (by kernel_rfl) ?kc2 ?kc3
          case kc2 =>
            intro u hu
            go_wp2_with fail
            change ∃ C' : World → Prop, _ ∧ _ ∧ _ ∧ anyU _ _ _ _ _ _ 3 _ _ _
            have hb1 : Below u.heap.size u (u.alloc (.cells #[.slice none 0 0, .slice none 0 0, .int .i64 0, .bool false] 25)) := bel_alloc1 u _
            have E1 := Lib.hid (Ext.trans hu hb1)
            have Y1 := Lib.hid (show Blk (u.alloc (.cells #[.slice none 0 0, .slice none 0 0, .int .i64 0, .bool false] 25)) u.heap.size #[.slice none 0 0, .slice none 0 0, .int .i64 0, .bool false] 25 from Blk.new u _ _)
            have sb5 : W.heap.size ≤ u.heap.size := Below.size hu
            generalize World.alloc u _ = u1 at E1 Y1 hb1 ⊢
            generalize u.heap.size = b5 at Y1 sb5 ⊢
            clear hu hb1
            refine anchorF (fun y => Ext W y ∧ Blk y b5 #[.slice none 0 0, .slice none 0 0, .int .i64 0, .bool false] 25) (fun y hy => hy.1) ((Ext.stable W).and (fun y z h k => h.below k h.lt)) ⟨E1.out, Y1.out⟩ ?_
            (try simp only [Act.put])
            clear E1 Y1
            refine anyU_one 3 2 _ rfl rfl (by kernel_rfl) ?_
            intro u hu
            go_wp2_with fail
            change ∃ C' : World → Prop, _ ∧ _ ∧ _ ∧ anyU _ _ _ _ _ _ 2 _ _ _
            have hb1 : Below u.heap.size u (u.alloc (.cells #[.slice none 0 0, .slice none 0 0, .int .i64 0, .bool false] 25)) := bel_alloc1 u _
            have E1 := Lib.hid (Ext.trans hu.1 hb1)
            have Y1 := Lib.hid (show Blk (u.alloc (.cells #[.slice none 0 0, .slice none 0 0, .int .i64 0, .bool false] 25)) u.heap.size #[.slice none 0 0, .slice none 0 0, .int .i64 0, .bool false] 25 from Blk.new u _ _)
            have sb6 : W.heap.size ≤ u.heap.size := Below.size hu.1
            have O1 := Lib.hid (hu.2.below hb1 hu.2.lt)
            have hne := Nat.ne_of_gt hu.2.lt
            generalize World.alloc u _ = u1 at E1 Y1 O1 hb1 ⊢
            generalize u.heap.size = b6 at Y1 sb6 hne ⊢
            clear hu hb1
            refine anchorF (fun y => Ext W y ∧ Blk y b6 #[.slice none 0 0, .slice none 0 0, .int .i64 0, .bool false] 25 ∧ Blk y b5 #[.slice none 0 0, .slice none 0 0, .int .i64 0, .bool false] 25) (fun y hy => hy.1) ((Ext.stable W).and (fun y z h k => ⟨h.1.below k h.1.lt, h.2.below k h.2.lt⟩)) ⟨E1.out, Y1.out, O1.out⟩ ?_
            (try simp only [Act.put])
            clear E1 Y1 O1
            refine anyU_one 4 1 _ rfl rfl (by kernel_rfl) ?_
            intro u hu
            have h56 : b5 ≠ b6 := hne.symm
            have x0 := hu.2.2.cell 0
            have x1 := hu.2.2.cell 1
            have x2 := hu.2.2.cell 2
            have x3 := hu.2.2.cell 3
            have y0 := hu.2.2.frozen 0
            have y1 := hu.2.2.frozen 1
            have y2 := hu.2.2.frozen 2
            have y3 := hu.2.2.frozen 3
            simp at x0 x1 x2 x3
            have X5 := (((((hu.2.2).set 0 (.slice d.ps d.ns d.cs)).set 1 (.slice d.pp d.np d.cp)).set 2 (.int .i64 d.left)).set 3 (.bool d.st))
            have X6 := (((((hu.2.1).other (b' := b5) 0 (.slice d.ps d.ns d.cs) h56.symm).other (b' := b5) 1 (.slice d.pp d.np d.cp) h56.symm).other (b' := b5) 2 (.int .i64 d.left) h56.symm).other (b' := b5) 3 (.bool d.st) h56.symm)
            have XE := ((((Below.setCell hu.1 (p := ⟨b5, 0, none⟩) sb5 (.slice d.ps d.ns d.cs)).setCell (p := ⟨b5, 1, none⟩) sb5 (.slice d.pp d.np d.cp)).setCell (p := ⟨b5, 2, none⟩) sb5 (.int .i64 d.left)).setCell (p := ⟨b5, 3, none⟩) sb5 (.bool d.st))
            go_wp2_with fail
            change ∃ C' : World → Prop, _ ∧ _ ∧ _ ∧ anyU _ _ _ _ _ _ 1 _ _ _
            refine anchorF (fun y => Ext W y ∧ Blk y b6 #[.slice none 0 0, .slice none 0 0, .int .i64 0, .bool false] 25 ∧ Blk y b5 d.c 25) (fun y hy => hy.1) ((Ext.stable W).and (fun y z h k => ⟨h.1.below k h.1.lt, h.2.below k h.2.lt⟩)) ⟨XE, ⟨X6, X5⟩⟩ ?_
            (try simp only [Act.put])
            clear hu x0 x1 x2 x3 y0 y1 y2 y3 X5 X6 XE
            refine anyU_tail 5 [] rfl rfl (by decide) (by kernel_rfl) ?_
            intro u2 hu2
            simp only [Act.put, List.filterMap_cons, List.filterMap_nil, List.getElem?_cons_succ, List.getElem?_cons_zero]
            have x0 := hu2.2.1.cell 0
            have x1 := hu2.2.1.cell 1
            have x2 := hu2.2.1.cell 2
            have x3 := hu2.2.1.cell 3
            have y0 := hu2.2.1.frozen 0
            have y1 := hu2.2.1.frozen 1
            have y2 := hu2.2.1.frozen 2
            have y3 := hu2.2.1.frozen 3
            simp at x0 x1 x2 x3
            have X6 := (((((hu2.2.1).set 0 (.slice d.ps d.ns d.cs)).set 1 (.slice d.pp d.np d.cp)).set 2 (.int .i64 d.left)).set 3 (.bool d.st))
            have X5 := (((((hu2.2.2).other (b' := b6) 0 (.slice d.ps d.ns d.cs) h56).other (b' := b6) 1 (.slice d.pp d.np d.cp) h56).other (b' := b6) 2 (.int .i64 d.left) h56).other (b' := b6) 3 (.bool d.st) h56)
            have XE := ((((Below.setCell hu2.1 (p := ⟨b6, 0, none⟩) sb6 (.slice d.ps d.ns d.cs)).setCell (p := ⟨b6, 1, none⟩) sb6 (.slice d.pp d.np d.cp)).setCell (p := ⟨b6, 2, none⟩) sb6 (.int .i64 d.left)).setCell (p := ⟨b6, 3, none⟩) sb6 (.bool d.st))
            clear hu2
            go_wp2_with fail
            go_meet
            exact ⟨b5, b6, rfl, rfl, Lib.hid ⟨h56, by omega, by omega, Nat.le_trans BW.out.size sb5, Nat.le_trans BW.out.size sb6, D1W.out.sep sb5, D1W.out.sep sb6, (fun a ha h0 => by have := SAW.out.lt h0 ha; omega), X5, X6, V2W.out.below XE V2W.out.lt, D1W.out.below XE, SAW.out.below XE, BW.out.trans (Below.mono XE BW.out.size)⟩⟩
          case kc3 =>
            intro u hu
            go_wp2_with fail
            change ∃ C' : World → Prop, _ ∧ _ ∧ _ ∧ anyU _ _ _ _ _ _ 3 _ _ _
            have hb1 : Below u.heap.size u (u.alloc (.cells #[.slice none 0 0, .slice none 0 0, .int .i64 0, .bool false] 25)) := bel_alloc1 u _
            have E1 := Lib.hid (Ext.trans hu hb1)
            have Y1 := Lib.hid (show Blk (u.alloc (.cells #[.slice none 0 0, .slice none 0 0, .int .i64 0, .bool false] 25)) u.heap.size #[.slice none 0 0, .slice none 0 0, .int .i64 0, .bool false] 25 from Blk.new u _ _)
            have sb6 : W.heap.size ≤ u.heap.size := Below.size hu
            generalize World.alloc u _ = u1 at E1 Y1 hb1 ⊢
            generalize u.heap.size = b6 at Y1 sb6 ⊢
            clear hu hb1
            refine anchorF (fun y => Ext W y ∧ Blk y b6 #[.slice none 0 0, .slice none 0 0, .int .i64 0, .bool false] 25) (fun y hy => hy.1) ((Ext.stable W).and (fun y z h k => h.below k h.lt)) ⟨E1.out, Y1.out⟩ ?_
            (try simp only [Act.put])
            clear E1 Y1
            refine anyU_one 2 2 _ rfl rfl (by kernel_rfl) ?_
            intro u hu
            go_wp2_with fail
            change ∃ C' : World → Prop, _ ∧ _ ∧ _ ∧ anyU _ _ _ _ _ _ 2 _ _ _
            have hb1 : Below u.heap.size u (u.alloc (.cells #[.slice none 0 0, .slice none 0 0, .int .i64 0, .bool false] 25)) := bel_alloc1 u _
            have E1 := Lib.hid (Ext.trans hu.1 hb1)
            have Y1 := Lib.hid (show Blk (u.alloc (.cells #[.slice none 0 0, .slice none 0 0, .int .i64 0, .bool false] 25)) u.heap.size #[.slice none 0 0, .slice none 0 0, .int .i64 0, .bool false] 25 from Blk.new u _ _)
            have sb5 : W.heap.size ≤ u.heap.size := Below.size hu.1
            have O1 := Lib.hid (hu.2.below hb1 hu.2.lt)
            have hne := Nat.ne_of_gt hu.2.lt
            generalize World.alloc u _ = u1 at E1 Y1 O1 hb1 ⊢
            generalize u.heap.size = b5 at Y1 sb5 hne ⊢
            clear hu hb1
            refine anchorF (fun y => Ext W y ∧ Blk y b5 #[.slice none 0 0, .slice none 0 0, .int .i64 0, .bool false] 25 ∧ Blk y b6 #[.slice none 0 0, .slice none 0 0, .int .i64 0, .bool false] 25) (fun y hy => hy.1) ((Ext.stable W).and (fun y z h k => ⟨h.1.below k h.1.lt, h.2.below k h.2.lt⟩)) ⟨E1.out, Y1.out, O1.out⟩ ?_
            (try simp only [Act.put])
            clear E1 Y1 O1
            refine anyU_one 4 1 _ rfl rfl (by kernel_rfl) ?_
            intro u hu
            have h56 : b5 ≠ b6 := hne
            have x0 := hu.2.1.cell 0
            have x1 := hu.2.1.cell 1
            have x2 := hu.2.1.cell 2
            have x3 := hu.2.1.cell 3
            have y0 := hu.2.1.frozen 0
            have y1 := hu.2.1.frozen 1
            have y2 := hu.2.1.frozen 2
            have y3 := hu.2.1.frozen 3
            simp at x0 x1 x2 x3
            have X5 := (((((hu.2.1).set 0 (.slice d.ps d.ns d.cs)).set 1 (.slice d.pp d.np d.cp)).set 2 (.int .i64 d.left)).set 3 (.bool d.st))
            have X6 := (((((hu.2.2).other (b' := b5) 0 (.slice d.ps d.ns d.cs) h56.symm).other (b' := b5) 1 (.slice d.pp d.np d.cp) h56.symm).other (b' := b5) 2 (.int .i64 d.left) h56.symm).other (b' := b5) 3 (.bool d.st) h56.symm)
            have XE := ((((Below.setCell hu.1 (p := ⟨b5, 0, none⟩) sb5 (.slice d.ps d.ns d.cs)).setCell (p := ⟨b5, 1, none⟩) sb5 (.slice d.pp d.np d.cp)).setCell (p := ⟨b5, 2, none⟩) sb5 (.int .i64 d.left)).setCell (p := ⟨b5, 3, none⟩) sb5 (.bool d.st))
            go_wp2_with fail
            change ∃ C' : World → Prop, _ ∧ _ ∧ _ ∧ anyU _ _ _ _ _ _ 1 _ _ _
            refine anchorF (fun y => Ext W y ∧ Blk y b5 d.c 25 ∧ Blk y b6 #[.slice none 0 0, .slice none 0 0, .int .i64 0, .bool false] 25) (fun y hy => hy.1) ((Ext.stable W).and (fun y z h k => ⟨h.1.below k h.1.lt, h.2.below k h.2.lt⟩)) ⟨XE, ⟨X5, X6⟩⟩ ?_
            (try simp only [Act.put])
            clear hu x0 x1 x2 x3 y0 y1 y2 y3 X5 X6 XE
            refine anyU_tail 5 [] rfl rfl (by decide) (by kernel_rfl) ?_
            intro u2 hu2
            simp only [Act.put, List.filterMap_cons, List.filterMap_nil, List.getElem?_cons_succ, List.getElem?_cons_zero]
            have x0 := hu2.2.2.cell 0
            have x1 := hu2.2.2.cell 1
            have x2 := hu2.2.2.cell 2
            have x3 := hu2.2.2.cell 3
            have y0 := hu2.2.2.frozen 0
            have y1 := hu2.2.2.frozen 1
            have y2 := hu2.2.2.frozen 2
            have y3 := hu2.2.2.frozen 3
            simp at x0 x1 x2 x3
            have X6 := (((((hu2.2.2).set 0 (.slice d.ps d.ns d.cs)).set 1 (.slice d.pp d.np d.cp)).set 2 (.int .i64 d.left)).set 3 (.bool d.st))
            have X5 := (((((hu2.2.1).other (b' := b6) 0 (.slice d.ps d.ns d.cs) h56).other (b' := b6) 1 (.slice d.pp d.np d.cp) h56).other (b' := b6) 2 (.int .i64 d.left) h56).other (b' := b6) 3 (.bool d.st) h56)
            have XE := ((((Below.setCell hu2.1 (p := ⟨b6, 0, none⟩) sb6 (.slice d.ps d.ns d.cs)).setCell (p := ⟨b6, 1, none⟩) sb6 (.slice d.pp d.np d.cp)).setCell (p := ⟨b6, 2, none⟩) sb6 (.int .i64 d.left)).setCell (p := ⟨b6, 3, none⟩) sb6 (.bool d.st))
            clear hu2
            go_wp2_with fail
            go_meet
            exact ⟨b5, b6, rfl, rfl, Lib.hid ⟨h56, by omega, by omega, Nat.le_trans BW.out.size sb5, Nat.le_trans BW.out.size sb6, D1W.out.sep sb5, D1W.out.sep sb6, (fun a ha h0 => by have := SAW.out.lt h0 ha; omega), X5, X6, V2W.out.below XE V2W.out.lt, D1W.out.below XE, SAW.out.below XE, BW.out.trans (Below.mono XE BW.out.size)⟩⟩
        case rest =>
          obtain ⟨b5, b6, rfl, rfl, HC⟩ := hcut
          obtain ⟨h56, h25, h26, hw5, hw6, SD5, SD6, HA', V5', V6', V2', D1', SA', BB'⟩ := HC.out
          clear V2 D1 SA BB HC
          have V5 := Lib.hid V5'; have V6 := Lib.hid V6'; have V2 := Lib.hid V2'; have D1 := Lib.hid D1'; have SA := Lib.hid SA'; have BB := Lib.hid BB'
          have S5 := Lib.hid SD5; have S6 := Lib.hid SD6; have HA5 := Lib.hid HA'
          clear HA' V5' V6' V2' D1' SA' BB' SD5 SD6
          go_wp2_with fail
          go_loopw [7, 8] (fun e i wr => ∃ (k : Nat) (er : Int) (x : Dk), k ≤ sn ∧ i = .int .i64 k ∧ e = .int .i64 er ∧ Hid (Loop1 d WL k x er) ∧ Hid (Blk wr b5 x.c 25) ∧ Hid (DkOk wr x) ∧ Hid (DkSep x b5) ∧ Hid (DkSep x b6) ∧ Hid (Blk wr b6 d.c 25) ∧ Hid (Blk wr nV2 d.c 25) ∧ Hid (DkOk wr d) ∧ Hid (ActsV wr sp sn qs) ∧ Hid (Below w.heap.size w wr)) (fun _ i _ => sn - (intOf i).toNat)
          case atStart => exact ⟨0, 0, d, Nat.zero_le _, rfl, rfl, Lib.hid (.inl ⟨rfl, half_start QD.out WD.out⟩), V5, D1, S5, S6, V6, V2, D1, SA, BB⟩
          case round =>
            obtain ⟨k, er, x, hk, rfl, rfl, HL, V5x, DXx, SX5, SX6, V6x, V2x, D1x, SAx, BBx⟩ := hrel
            clear V5 V6 V2 D1 SA BB
            have V5 := V5x; have V6 := V6x; have V2 := V2x; have D1 := D1x; have SA := SAx; have BB := BBx; have DX := DXx
            clear V5x V6x V2x D1x SAx BBx DXx
            by_cases hgo : k < sn ∧ er = 0
            case pos =>
              obtain ⟨hlt, rfl⟩ := hgo
              have HH := Lib.hid (show Half d WL k x by
                rcases HL.out with ⟨_, h⟩ | ⟨h, _⟩
                · exact h
                · cases h)
              clear HL
              have QX := Lib.hid HH.out.1
              have WX := Lib.hid HH.out.2.1
              have nx : x.ns = d.ns := by rw [DX.out.lens.1, D1.out.lens.1, HH.out.2.2.2.2.2.1]
              have HAW := Lib.hid (AW.out k hlt)
              obtain ⟨ba, oa, hsp, hba, ha0, ha1, ha2, haok⟩ := SA.out.at hlt
              obtain ⟨⟨asy, apos, abyt⟩, hx⟩ : ∃ y, qs.getD k ac0 = y := ⟨_, rfl⟩
              rw [hx] at HAW ha0 ha1 ha2 haok
              have HQ := Lib.hid (qOf_lt (ns := d.ns) (a := ⟨asy, apos, abyt⟩) hns)
              have HQI := Lib.hid (qOf_int (ns := d.ns) (a := ⟨asy, apos, abyt⟩) hns)
              obtain ⟨qq, hqq⟩ : ∃ q, qOf d.ns ⟨asy, apos, abyt⟩ = q := ⟨_, rfl⟩
              rw [hqq] at HAW HQ HQI
              dsimp only at HAW ha1 ha2 HQI
              have hqlt : qq < x.ns := by rw [nx]; exact HQ.out
              have hp0 : 0 ≤ apos := haok.1.1
              have hp1 : apos ≤ 255 := haok.1.2
              have HBR := Lib.hid (one_rng (show 0 ≤ abyt ∧ abyt ≤ 255 from haok.2))
              have HWR := Lib.hid (wrap_u8 hp0 hp1)
              have HTM := Lib.hid (show apos.tmod (d.ns : Int) = (qq : Int) by rw [Int.tmod_eq_emod_of_nonneg hp0]; exact HQI.out)
              have HNZ := Lib.hid (show ¬ d.ns = 0 by omega)
              clear hx hqq haok ha0 nx
              have HSP := Lib.hid hsp
              clear hsp
              go_upto_region 10 with fail
              have hsp0 := HSP.out
              subst hsp0
              refine wp_region_any (by kernel_rfl) ?_
              change wpAny _ _ _ _ _ _ _ (World.drew _)
              generalize hWD : World.drew _ = W
              have V5W := Lib.hid (show Blk W b5 x.c 25 by rw [← hWD]; exact V5.out)
              have V6W := Lib.hid (show Blk W b6 d.c 25 by rw [← hWD]; exact V6.out)
              have V2W := Lib.hid (show Blk W nV2 d.c 25 by rw [← hWD]; exact V2.out)
              have DXW := Lib.hid (show DkOk W x by rw [← hWD]; exact DX.out.below ((Below.refl _ _).drew))
              have D1W := Lib.hid (show DkOk W d by rw [← hWD]; exact D1.out.below ((Below.refl _ _).drew))
              have SAW := Lib.hid (show ActsV W (some ⟨ba, oa, none⟩) sn qs by rw [← hWD]; exact SA.out.below ((Below.refl _ _).drew))
              have BW := Lib.hid (show Below w.heap.size w W by rw [← hWD]; exact BB.out.drew)
              have hbW : ba < W.heap.size := by rw [← hWD]; exact hba
              have ha1W : W.cell? ⟨ba, oa + k * 3 + 1, none⟩ = some (.int .u8 apos) := by rw [← hWD]; exact ha1
              have ha2W : W.cell? ⟨ba, oa + k * 3 + 2, none⟩ = some (.int .u8 abyt) := by rw [← hWD]; exact ha2
              clear hWD
              have A1 := Lib.hid (fun u (hu : Ext W u) => (Below.cell hu (p := ⟨ba, oa + k * 3 + 1, none⟩) hbW).trans ha1W)
              have A2 := Lib.hid (fun u (hu : Ext W u) => (Below.cell hu (p := ⟨ba, oa + k * 3 + 2, none⟩) hbW).trans ha2W)
              have hCD : ∀ u, Ext W u → Ext W u := fun u hu => hu
              refine region_U (D := Ext W) (Ext W) [10] (Ext.refl W) ?_
              refine anyU_takeD (i := 0) (v := .slice (some ⟨ba, oa, none⟩) sn sc) 59 rfl rfl (by kernel_rfl) (by kernel_rfl) (by kernel_rfl) (fun _ _ _ h => h) (by kernel_rfl) (Ext.stable _) hCD (yieldsU_val rfl (fun u hu => by go_simp)) ?_
              refine anyU_takeD (i := 1) (v := .int .i64 (k : Int)) 60 rfl rfl (by kernel_rfl) (by kernel_rfl) (by kernel_rfl) (fun _ _ _ h => h) (by kernel_rfl) (Ext.stable _) hCD (yieldsU_val rfl (fun u hu => by go_simp)) ?_
              refine anyU_takeD (i := 2) (v := .pointer (some ⟨ba, oa + k * 3, none⟩)) 61 rfl rfl (by kernel_rfl) (by kernel_rfl) (by kernel_rfl) (fun _ _ _ h => h) (by kernel_rfl) (Ext.stable _) hCD (yieldsU_val rfl (fun u hu => by go_simp)) ?_
              refine anyU_takeD (i := 3) (v := .pointer (some ⟨ba, oa + k * 3 + 1, none⟩)) 62 rfl rfl (by kernel_rfl) (by kernel_rfl) (by kernel_rfl) (fun _ _ _ h => h) (by kernel_rfl) (Ext.stable _) hCD (yieldsU_val rfl (fun u hu => by go_simp)) ?_
              refine anyU_takeD (i := 4) (v := .int .u8 apos) 63 rfl rfl (by kernel_rfl) (by kernel_rfl) (by kernel_rfl) (fun _ _ _ h => h) (by kernel_rfl) (Ext.stable _) hCD (yieldsU_val rfl (fun u hu => by have c := A1.out u hu; go_simp)) ?_
              refine anyU_takeD (i := 5) (v := .int .i64 apos) 64 rfl rfl (by kernel_rfl) (by kernel_rfl) (by kernel_rfl) (fun _ _ _ h => h) (by kernel_rfl) (Ext.stable _) hCD (yieldsU_val rfl (fun u hu => by have c := HWR.out; go_simp)) ?_
              simp only [Act.put, List.setIfInBounds_toArray, List.set_cons_succ, List.set_cons_zero]
              refine anyU_takeD (i := 6) (v := .pointer (some ⟨nV2, 0, none⟩)) 65 rfl rfl (by kernel_rfl) (by kernel_rfl) (by kernel_rfl) (fun _ _ _ h => h) (by kernel_rfl) (Ext.stable _) hCD (yieldsU_val rfl (fun u hu => by go_simp)) ?_
              refine anyU_takeD (i := 7) (v := .slice d.ps d.ns d.cs) 66 rfl rfl (by kernel_rfl) (by kernel_rfl) (by kernel_rfl) (fun _ _ _ h => h) (by kernel_rfl) (Ext.stable _) hCD (yieldsU_val rfl (fun u hu => by have c := (V2W.out.below hu V2W.out.lt).cell 0; simp at c; go_simp)) ?_
              refine anyU_takeD (i := 8) (v := .int .i64 (d.ns : Int)) 67 rfl rfl (by kernel_rfl) (by kernel_rfl) (by kernel_rfl) (fun _ _ _ h => h) (by kernel_rfl) (Ext.stable _) hCD (yieldsU_val rfl (fun u hu => by go_simp)) ?_
              refine anyU_takeD (i := 9) (v := .int .i64 (qq : Int)) 68 rfl rfl (by kernel_rfl) (by kernel_rfl) (by kernel_rfl) (fun _ _ _ h => h) (by kernel_rfl) (Ext.stable _) hCD (yieldsU_val rfl (fun u hu => by have c := HTM.out; have c2 := HNZ.out; go_simp)) ?_
              simp only [Act.put, List.setIfInBounds_toArray, List.set_cons_succ, List.set_cons_zero]
              refine anyU_tail 10 [] rfl rfl (by decide) (by kernel_rfl) ?_
              intro u2 hu2
              simp only [Act.put, List.filterMap_cons, List.filterMap_nil, List.getElem?_cons_succ, List.getElem?_cons_zero]
              clear V5 V6 V2 DX D1 SA BB ha1 ha2 hba
              have V5 := Lib.hid (V5W.out.below hu2 V5W.out.lt); have V6 := Lib.hid (V6W.out.below hu2 V6W.out.lt); have V2 := Lib.hid (V2W.out.below hu2 V2W.out.lt)
              have DX := Lib.hid (DXW.out.below hu2); have D1 := Lib.hid (D1W.out.below hu2); have SA := Lib.hid (SAW.out.below hu2)
              have BB := Lib.hid (BW.out.trans (Below.mono hu2 BW.out.size))
              have ha1 := A1.out u2 hu2
              have ha2 := A2.out u2 hu2
              have hba : ba < u2.heap.size := Nat.lt_of_lt_of_le hbW (Below.size hu2)
              clear V5W V6W V2W DXW D1W SAW BW A1 A2 hbW ha1W ha2W hu2 hCD
              generalize u2 = u3 at V5 V6 V2 DX D1 SA BB ha1 ha2 hba ⊢
              go_upto_region 11 with fail
              go_cut [10, 11] (fun s10 s11 wx => ∃ b10 x1, s10 = .pointer (some ⟨b10, 0, none⟩) ∧ s11 = .int .i64 0 ∧ Hid (Blk wx b10 x1.c 25 ∧ DkOk wx x1 ∧ Wrote x qq [abyt] x1 ∧ DkSep x1 b5 ∧ DkSep x1 b6 ∧ u3.heap.size ≤ b10 ∧ Below u3.heap.size u3 wx))
              case first =>
                refine wp_region_any (by kernel_rfl) ?_
                change wpAny _ _ _ _ _ _ _ (World.drew _)
                generalize hWD : World.drew _ = W
                have V5W := Lib.hid (show Blk W b5 x.c 25 by rw [← hWD]; exact V5.out)
                have V6W := Lib.hid (show Blk W b6 d.c 25 by rw [← hWD]; exact V6.out)
                have V2W := Lib.hid (show Blk W nV2 d.c 25 by rw [← hWD]; exact V2.out)
                have DXW := Lib.hid (show DkOk W x by rw [← hWD]; exact DX.out.below ((Below.refl _ _).drew))
                have D1W := Lib.hid (show DkOk W d by rw [← hWD]; exact D1.out.below ((Below.refl _ _).drew))
                have SAW := Lib.hid (show ActsV W (some ⟨ba, oa, none⟩) sn qs by rw [← hWD]; exact SA.out.below ((Below.refl _ _).drew))
                have BW := Lib.hid (show Below w.heap.size w W by rw [← hWD]; exact BB.out.drew)
                have hbW : ba < W.heap.size := by rw [← hWD]; exact hba
                have ha1W : W.cell? ⟨ba, oa + k * 3 + 1, none⟩ = some (.int .u8 apos) := by rw [← hWD]; exact ha1
                have ha2W : W.cell? ⟨ba, oa + k * 3 + 2, none⟩ = some (.int .u8 abyt) := by rw [← hWD]; exact ha2
                have EU := Lib.hid (show Below u3.heap.size u3 W by rw [← hWD]; exact (Below.refl _ _).drew)
                clear hWD
                have A1 := Lib.hid (fun u (hu : Ext W u) => (Below.cell hu (p := ⟨ba, oa + k * 3 + 1, none⟩) hbW).trans ha1W)
                have A2 := Lib.hid (fun u (hu : Ext W u) => (Below.cell hu (p := ⟨ba, oa + k * 3 + 2, none⟩) hbW).trans ha2W)
                have hCD : ∀ u, Ext W u → Ext W u := fun u hu => hu
                have QDX := QX
                have HWDX := Lib.hid (show x.ws.length < 4096 by rw [WX.out]; simp)
                have l5 := V5W.out.lt
                have l6 := V6W.out.lt
                refine region_U (D := Ext W) (fun y => Ext W y ∧ (fun _ => True) y ∧ (fun _ => True) y) [14] ⟨Ext.refl W, trivial, trivial⟩ ?_
                refine anyU_takeD (i := 0) (v := .agg x.c) 70 rfl rfl (by kernel_rfl) (by kernel_rfl) (by kernel_rfl) (fun _ _ _ h => h) (by kernel_rfl) ((Ext.stable W).and (Stable.and (A := fun _ => True) (B := fun _ => True) tr_st tr_st)) (fun y hy => hy.1) (yieldsU_val rfl (fun u hu => by have c := (V5W.out.below hu V5W.out.lt).cell 0; have c1 := (V5W.out.below hu V5W.out.lt).cell 1; have c2 := (V5W.out.below hu V5W.out.lt).cell 2; have c3 := (V5W.out.below hu V5W.out.lt).cell 3; simp at c c1 c2 c3; go_simp)) ?_
                refine anyU_takeD (i := 1) (v := .int .i64 (qq : Int)) 71 rfl rfl (by kernel_rfl) (by kernel_rfl) (by kernel_rfl) (fun _ _ _ h => h) (by kernel_rfl) ((Ext.stable W).and (Stable.and (A := fun _ => True) (B := fun _ => True) tr_st tr_st)) (fun y hy => hy.1) (yieldsU_val rfl (fun u hu => by go_simp)) ?_
                refine anyU_takeD (i := 2) (v := .slice (some ⟨ba, oa, none⟩) sn sc) 72 rfl rfl (by kernel_rfl) (by kernel_rfl) (by kernel_rfl) (fun _ _ _ h => h) (by kernel_rfl) ((Ext.stable W).and (Stable.and (A := fun _ => True) (B := fun _ => True) tr_st tr_st)) (fun y hy => hy.1) (yieldsU_val rfl (fun u hu => by go_simp)) ?_
                refine anyU_takeD (i := 3) (v := .int .i64 (k : Int)) 73 rfl rfl (by kernel_rfl) (by kernel_rfl) (by kernel_rfl) (fun _ _ _ h => h) (by kernel_rfl) ((Ext.stable W).and (Stable.and (A := fun _ => True) (B := fun _ => True) tr_st tr_st)) (fun y hy => hy.1) (yieldsU_val rfl (fun u hu => by go_simp)) ?_
                refine anyU_takeD (i := 4) (v := .pointer (some ⟨ba, oa + k * 3, none⟩)) 74 rfl rfl (by kernel_rfl) (by kernel_rfl) (by kernel_rfl) (fun _ _ _ h => h) (by kernel_rfl) ((Ext.stable W).and (Stable.and (A := fun _ => True) (B := fun _ => True) tr_st tr_st)) (fun y hy => hy.1) (yieldsU_val rfl (fun u hu => by go_simp)) ?_
                refine anyU_takeD (i := 5) (v := .pointer (some ⟨ba, oa + k * 3 + 2, none⟩)) 75 rfl rfl (by kernel_rfl) (by kernel_rfl) (by kernel_rfl) (fun _ _ _ h => h) (by kernel_rfl) ((Ext.stable W).and (Stable.and (A := fun _ => True) (B := fun _ => True) tr_st tr_st)) (fun y hy => hy.1) (yieldsU_val rfl (fun u hu => by go_simp)) ?_
                simp only [Act.put, List.setIfInBounds_toArray, List.set_cons_succ, List.set_cons_zero]
                refine anyU_takeD (i := 6) (v := .int .u8 abyt) 76 rfl rfl (by kernel_rfl) (by kernel_rfl) (by kernel_rfl) (fun _ _ _ h => h) (by kernel_rfl) ((Ext.stable W).and (Stable.and (A := fun _ => True) (B := fun _ => True) tr_st tr_st)) (fun y hy => hy.1) (yieldsU_val rfl (fun u hu => by have c := A2.out u hu; go_simp)) ?_
                simp only [Act.put, List.setIfInBounds_toArray, List.set_cons_succ, List.set_cons_zero]
                refine anyU_two 7 12 7 _ _ rfl rfl rfl rfl (by kernel_rfl) ?kw1 ?kw2
                case kw1 =>
                  intro u hu
                  go_wp2_with fail
                  change ∃ C' : World → Prop, _ ∧ _ ∧ _ ∧ anyU _ _ _ _ _ _ 7 _ _ _
                  have hb1 : Below u.heap.size u (u.alloc (.cells #[.int .u8 abyt] 5)) := bel_alloc1 u _
                  have E1 := Lib.hid (Ext.trans hu.1 hb1)
                  have Y1 := Lib.hid (show Blk (u.alloc (.cells #[.int .u8 abyt] 5)) u.heap.size #[.int .u8 abyt] 5 from Blk.new u _ _)
                  have O1 := Lib.hid ((show Stable (fun _ => True) from tr_st) _ _ hu.2.2 hb1)
                  generalize World.alloc u _ = u1 at E1 Y1 O1 hb1 ⊢
                  generalize u.heap.size = bb at Y1 ⊢
                  clear hu hb1
                  refine anchorF (fun y => Ext W y ∧ (fun z => Blk z bb #[.int .u8 abyt] 5) y ∧ (fun _ => True) y) (fun y hy => hy.1) ((Ext.stable W).and (Stable.and (A := fun z => Blk z bb #[.int .u8 abyt] 5) (B := fun _ => True) (fun y z h k => h.below k h.lt) tr_st)) ⟨E1.out, Y1.out, O1.out⟩ ?_
                  (try simp only [Act.put])
                  clear E1 Y1 O1
                  refine anyU_two 8 12 6 _ _ rfl rfl rfl rfl (by kernel_rfl) ?kw3 ?kw4
                  case kw3 =>
                    intro u hu
                    have KX := Lib.hid (show SrcW u (some ⟨bb, 0, none⟩) 1 1 [abyt] from .inl (blk_one hu.2.1))
                    go_wp2_with fail
                    refine (write_L x qq (some ⟨bb, 0, none⟩) 1 1 [abyt] u (Lib.hid (DXW.out.below hu.1)) QDX hqlt (by omega) HWDX KX HBR).mono ?_
                    rintro e u1 ⟨⟨x1, rfl, hd, hf, hs⟩, hb1⟩
                    go_wp2_with fail
                    change ∃ C' : World → Prop, _ ∧ _ ∧ _ ∧ anyU _ _ _ _ _ _ 6 _ _ _
                    have E1 := Lib.hid (Ext.trans hu.1 hb1)
                    have F1 := Lib.hid hf
                    have SA5 := Lib.hid (hs b5 (Nat.lt_of_lt_of_le l5 (Below.size hu.1)) SX5.out)
                    have SA6 := Lib.hid (hs b6 (Nat.lt_of_lt_of_le l6 (Below.size hu.1)) SX6.out)
                    have O1 := Lib.hid ((show Stable (fun _ => True) from tr_st) _ _ hu.2.2 hb1)
                    refine anchorF (fun y => Ext W y ∧ (fun z => DkOk z x1) y ∧ (fun _ => True) y) (fun y hy => hy.1) ((Ext.stable W).and (Stable.and (A := fun z => DkOk z x1) (B := fun _ => True) (fun y z h k => h.below k) tr_st)) ⟨E1.out, hd, O1.out⟩ ?_
                    (try simp only [Act.put])
                    clear E1 hd hf hs hb1 hu KX O1
                    refine anyU_takeD (i := 9) (v := .tuple #[.agg x1.c, .int .i64 0]) 69 rfl rfl (by kernel_rfl) (by kernel_rfl) (by kernel_rfl) (fun _ _ _ h => h) (by kernel_rfl) ((Ext.stable W).and (Stable.and (A := fun z => DkOk z x1) (B := fun _ => True) (fun y z h k => h.below k) tr_st)) (fun y hy => hy.1) (yieldsU_val rfl (fun u hu => by go_simp)) ?_
                    refine anyU_takeD (i := 10) (v := .agg x1.c) 79 rfl rfl (by kernel_rfl) (by kernel_rfl) (by kernel_rfl) (fun _ _ _ h => h) (by kernel_rfl) ((Ext.stable W).and (Stable.and (A := fun z => DkOk z x1) (B := fun _ => True) (fun y z h k => h.below k) tr_st)) (fun y hy => hy.1) (yieldsU_val rfl (fun u hu => by go_simp)) ?_
                    refine anyU_takeD (i := 11) (v := .int .i64 0) 80 rfl rfl (by kernel_rfl) (by kernel_rfl) (by kernel_rfl) (fun _ _ _ h => h) (by kernel_rfl) ((Ext.stable W).and (Stable.and (A := fun z => DkOk z x1) (B := fun _ => True) (fun y z h k => h.below k) tr_st)) (fun y hy => hy.1) (yieldsU_val rfl (fun u hu => by go_simp)) ?_
                    simp only [Act.put, List.setIfInBounds_toArray, List.set_cons_succ, List.set_cons_zero]
                    refine anyU_one 12 2 _ rfl rfl (by kernel_rfl) ?_
                    intro u hu
                    go_wp2_with fail
                    change ∃ C' : World → Prop, _ ∧ _ ∧ _ ∧ anyU _ _ _ _ _ _ 2 _ _ _
                    have hb1 : Below u.heap.size u (u.alloc (.cells #[.slice none 0 0, .slice none 0 0, .int .i64 0, .bool false] 25)) := bel_alloc1 u _
                    have E1 := Lib.hid (Ext.trans hu.1 hb1)
                    have Y1 := Lib.hid (show Blk (u.alloc (.cells #[.slice none 0 0, .slice none 0 0, .int .i64 0, .bool false] 25)) u.heap.size #[.slice none 0 0, .slice none 0 0, .int .i64 0, .bool false] 25 from Blk.new u _ _)
                    have sb10 : W.heap.size ≤ u.heap.size := Below.size hu.1
                    have S10' := (DkOk.sep hu.2.1 (Nat.le_refl u.heap.size))
                    have O1 := Lib.hid ((show Stable (fun z => DkOk z x1) from (fun y z h k => h.below k)) _ _ hu.2.1 hb1)
                    generalize World.alloc u _ = u1 at E1 Y1 O1 hb1 ⊢
                    generalize u.heap.size = b10 at Y1 sb10 S10' ⊢
                    clear hu hb1
                    have S10 := Lib.hid S10'
                    clear S10'
                    refine anchorF (fun y => Ext W y ∧ (fun z => DkOk z x1) y ∧ (fun z => Blk z b10 #[.slice none 0 0, .slice none 0 0, .int .i64 0, .bool false] 25) y) (fun y hy => hy.1) ((Ext.stable W).and (Stable.and (A := fun z => DkOk z x1) (B := fun z => Blk z b10 #[.slice none 0 0, .slice none 0 0, .int .i64 0, .bool false] 25) (fun y z h k => h.below k) (fun y z h k => h.below k h.lt))) ⟨E1.out, O1.out, Y1.out⟩ ?_
                    (try simp only [Act.put])
                    clear E1 Y1 O1
                    refine anyU_one 13 1 _ rfl rfl (by kernel_rfl) ?_
                    intro u hu
                    have x0 := hu.2.2.cell 0
                    have x1c := hu.2.2.cell 1
                    have x2 := hu.2.2.cell 2
                    have x3 := hu.2.2.cell 3
                    have y0 := hu.2.2.frozen 0
                    have y1 := hu.2.2.frozen 1
                    have y2 := hu.2.2.frozen 2
                    have y3 := hu.2.2.frozen 3
                    simp at x0 x1c x2 x3
                    have XB := (((((hu.2.2).set 0 (.slice x1.ps x1.ns x1.cs)).set 1 (.slice x1.pp x1.np x1.cp)).set 2 (.int .i64 x1.left)).set 3 (.bool x1.st))
                    have XD := ((((((show DkOk u x1 from hu.2.1)).set (o := 0) (v := (.slice x1.ps x1.ns x1.cs)) S10.out).set (o := 1) (v := (.slice x1.pp x1.np x1.cp)) S10.out).set (o := 2) (v := (.int .i64 x1.left)) S10.out).set (o := 3) (v := (.bool x1.st)) S10.out)
                    have XE := ((((Below.setCell hu.1 (p := ⟨b10, 0, none⟩) sb10 (.slice x1.ps x1.ns x1.cs)).setCell (p := ⟨b10, 1, none⟩) sb10 (.slice x1.pp x1.np x1.cp)).setCell (p := ⟨b10, 2, none⟩) sb10 (.int .i64 x1.left)).setCell (p := ⟨b10, 3, none⟩) sb10 (.bool x1.st))
                    go_wp2_with fail
                    change ∃ C' : World → Prop, _ ∧ _ ∧ _ ∧ anyU _ _ _ _ _ _ 1 _ _ _
                    refine anchorF (fun y => Ext W y ∧ DkOk y x1 ∧ Blk y b10 x1.c 25) (fun y hy => hy.1) ((Ext.stable W).and (Stable.and (A := fun z => DkOk z x1) (B := fun z => Blk z b10 x1.c 25) (fun y z h k => h.below k) (fun y z h k => h.below k h.lt))) ⟨XE, XD, XB⟩ ?_
                    (try simp only [Act.put])
                    clear hu x0 x1c x2 x3 y0 y1 y2 y3 XB XD XE
                    refine anyU_tail 14 [] rfl rfl (by decide) (by kernel_rfl) ?_
                    intro u2 hu2
                    simp only [Act.put, List.filterMap_cons, List.filterMap_nil, List.getElem?_cons_succ, List.getElem?_cons_zero]
                    go_wp2_with fail
                    go_meet
                    exact ⟨b10, x1, rfl, rfl, Lib.hid ⟨hu2.2.2, hu2.2.1, F1.out, SA5.out, SA6.out, Nat.le_trans EU.out.size sb10, EU.out.trans (Below.mono hu2.1 EU.out.size)⟩⟩
                  case kw4 =>
                    intro u hu
                    go_wp2_with fail
                    change ∃ C' : World → Prop, _ ∧ _ ∧ _ ∧ anyU _ _ _ _ _ _ 6 _ _ _
                    have hb1 : Below u.heap.size u (u.alloc (.cells #[.slice none 0 0, .slice none 0 0, .int .i64 0, .bool false] 25)) := bel_alloc1 u _
                    have E1 := Lib.hid (Ext.trans hu.1 hb1)
                    have Y1 := Lib.hid (show Blk (u.alloc (.cells #[.slice none 0 0, .slice none 0 0, .int .i64 0, .bool false] 25)) u.heap.size #[.slice none 0 0, .slice none 0 0, .int .i64 0, .bool false] 25 from Blk.new u _ _)
                    have sb10 : W.heap.size ≤ u.heap.size := Below.size hu.1
                    have O1 := Lib.hid ((show Stable (fun z => Blk z bb #[.int .u8 abyt] 5) from (fun y z h k => h.below k h.lt)) _ _ hu.2.1 hb1)
                    generalize World.alloc u _ = u1 at E1 Y1 O1 hb1 ⊢
                    generalize u.heap.size = b10 at Y1 sb10 ⊢
                    clear hu hb1
                    refine anchorF (fun y => Ext W y ∧ (fun z => Blk z bb #[.int .u8 abyt] 5) y ∧ (fun z => Blk z b10 #[.slice none 0 0, .slice none 0 0, .int .i64 0, .bool false] 25) y) (fun y hy => hy.1) ((Ext.stable W).and (Stable.and (A := fun z => Blk z bb #[.int .u8 abyt] 5) (B := fun z => Blk z b10 #[.slice none 0 0, .slice none 0 0, .int .i64 0, .bool false] 25) (fun y z h k => h.below k h.lt) (fun y z h k => h.below k h.lt))) ⟨E1.out, O1.out, Y1.out⟩ ?_
                    (try simp only [Act.put])
                    clear E1 Y1 O1
                    refine anyU_one 8 5 _ rfl rfl (by kernel_rfl) ?_
                    intro u hu
                    have KX := Lib.hid (show SrcW u (some ⟨bb, 0, none⟩) 1 1 [abyt] from .inl (blk_one hu.2.1))
                    go_wp2_with fail
                    refine (write_L x qq (some ⟨bb, 0, none⟩) 1 1 [abyt] u (Lib.hid (DXW.out.below hu.1)) QDX hqlt (by omega) HWDX KX HBR).mono ?_
                    rintro e u1 ⟨⟨x1, rfl, hd, hf, hs⟩, hb1⟩
                    go_wp2_with fail
                    change ∃ C' : World → Prop, _ ∧ _ ∧ _ ∧ anyU _ _ _ _ _ _ 5 _ _ _
                    have E1 := Lib.hid (Ext.trans hu.1 hb1)
                    have F1 := Lib.hid hf
                    have SA5 := Lib.hid (hs b5 (Nat.lt_of_lt_of_le l5 (Below.size hu.1)) SX5.out)
                    have SA6 := Lib.hid (hs b6 (Nat.lt_of_lt_of_le l6 (Below.size hu.1)) SX6.out)
                    have S10 := Lib.hid (hs b10 hu.2.2.lt (DXW.out.sep sb10))
                    have O1 := Lib.hid ((show Stable (fun z => Blk z b10 #[.slice none 0 0, .slice none 0 0, .int .i64 0, .bool false] 25) from (fun y z h k => h.below k h.lt)) _ _ hu.2.2 hb1)
                    refine anchorF (fun y => Ext W y ∧ (fun z => DkOk z x1) y ∧ (fun z => Blk z b10 #[.slice none 0 0, .slice none 0 0, .int .i64 0, .bool false] 25) y) (fun y hy => hy.1) ((Ext.stable W).and (Stable.and (A := fun z => DkOk z x1) (B := fun z => Blk z b10 #[.slice none 0 0, .slice none 0 0, .int .i64 0, .bool false] 25) (fun y z h k => h.below k) (fun y z h k => h.below k h.lt))) ⟨E1.out, hd, O1.out⟩ ?_
                    (try simp only [Act.put])
                    clear E1 hd hf hs hb1 hu KX O1
                    refine anyU_takeD (i := 9) (v := .tuple #[.agg x1.c, .int .i64 0]) 69 rfl rfl (by kernel_rfl) (by kernel_rfl) (by kernel_rfl) (fun _ _ _ h => h) (by kernel_rfl) ((Ext.stable W).and (Stable.and (A := fun z => DkOk z x1) (B := fun z => Blk z b10 #[.slice none 0 0, .slice none 0 0, .int .i64 0, .bool false] 25) (fun y z h k => h.below k) (fun y z h k => h.below k h.lt))) (fun y hy => hy.1) (yieldsU_val rfl (fun u hu => by go_simp)) ?_
                    refine anyU_takeD (i := 10) (v := .agg x1.c) 79 rfl rfl (by kernel_rfl) (by kernel_rfl) (by kernel_rfl) (fun _ _ _ h => h) (by kernel_rfl) ((Ext.stable W).and (Stable.and (A := fun z => DkOk z x1) (B := fun z => Blk z b10 #[.slice none 0 0, .slice none 0 0, .int .i64 0, .bool false] 25) (fun y z h k => h.below k) (fun y z h k => h.below k h.lt))) (fun y hy => hy.1) (yieldsU_val rfl (fun u hu => by go_simp)) ?_
                    refine anyU_takeD (i := 11) (v := .int .i64 0) 80 rfl rfl (by kernel_rfl) (by kernel_rfl) (by kernel_rfl) (fun _ _ _ h => h) (by kernel_rfl) ((Ext.stable W).and (Stable.and (A := fun z => DkOk z x1) (B := fun z => Blk z b10 #[.slice none 0 0, .slice none 0 0, .int .i64 0, .bool false] 25) (fun y z h k => h.below k) (fun y z h k => h.below k h.lt))) (fun y hy => hy.1) (yieldsU_val rfl (fun u hu => by go_simp)) ?_
                    simp only [Act.put, List.setIfInBounds_toArray, List.set_cons_succ, List.set_cons_zero]
                    refine anyU_one 13 1 _ rfl rfl (by kernel_rfl) ?_
                    intro u hu
                    have x0 := hu.2.2.cell 0
                    have x1c := hu.2.2.cell 1
                    have x2 := hu.2.2.cell 2
                    have x3 := hu.2.2.cell 3
                    have y0 := hu.2.2.frozen 0
                    have y1 := hu.2.2.frozen 1
                    have y2 := hu.2.2.frozen 2
                    have y3 := hu.2.2.frozen 3
                    simp at x0 x1c x2 x3
                    have XB := (((((hu.2.2).set 0 (.slice x1.ps x1.ns x1.cs)).set 1 (.slice x1.pp x1.np x1.cp)).set 2 (.int .i64 x1.left)).set 3 (.bool x1.st))
                    have XD := ((((((show DkOk u x1 from hu.2.1)).set (o := 0) (v := (.slice x1.ps x1.ns x1.cs)) S10.out).set (o := 1) (v := (.slice x1.pp x1.np x1.cp)) S10.out).set (o := 2) (v := (.int .i64 x1.left)) S10.out).set (o := 3) (v := (.bool x1.st)) S10.out)
                    have XE := ((((Below.setCell hu.1 (p := ⟨b10, 0, none⟩) sb10 (.slice x1.ps x1.ns x1.cs)).setCell (p := ⟨b10, 1, none⟩) sb10 (.slice x1.pp x1.np x1.cp)).setCell (p := ⟨b10, 2, none⟩) sb10 (.int .i64 x1.left)).setCell (p := ⟨b10, 3, none⟩) sb10 (.bool x1.st))
                    go_wp2_with fail
                    change ∃ C' : World → Prop, _ ∧ _ ∧ _ ∧ anyU _ _ _ _ _ _ 1 _ _ _
                    refine anchorF (fun y => Ext W y ∧ DkOk y x1 ∧ Blk y b10 x1.c 25) (fun y hy => hy.1) ((Ext.stable W).and (Stable.and (A := fun z => DkOk z x1) (B := fun z => Blk z b10 x1.c 25) (fun y z h k => h.below k) (fun y z h k => h.below k h.lt))) ⟨XE, XD, XB⟩ ?_
                    (try simp only [Act.put])
                    clear hu x0 x1c x2 x3 y0 y1 y2 y3 XB XD XE
                    refine anyU_tail 14 [] rfl rfl (by decide) (by kernel_rfl) ?_
                    intro u2 hu2
                    simp only [Act.put, List.filterMap_cons, List.filterMap_nil, List.getElem?_cons_succ, List.getElem?_cons_zero]
                    go_wp2_with fail
                    go_meet
                    exact ⟨b10, x1, rfl, rfl, Lib.hid ⟨hu2.2.2, hu2.2.1, F1.out, SA5.out, SA6.out, Nat.le_trans EU.out.size sb10, EU.out.trans (Below.mono hu2.1 EU.out.size)⟩⟩
                case kw2 =>
                  intro u hu
                  go_wp2_with fail
                  change ∃ C' : World → Prop, _ ∧ _ ∧ _ ∧ anyU _ _ _ _ _ _ 7 _ _ _
                  have hb1 : Below u.heap.size u (u.alloc (.cells #[.slice none 0 0, .slice none 0 0, .int .i64 0, .bool false] 25)) := bel_alloc1 u _
                  have E1 := Lib.hid (Ext.trans hu.1 hb1)
                  have Y1 := Lib.hid (show Blk (u.alloc (.cells #[.slice none 0 0, .slice none 0 0, .int .i64 0, .bool false] 25)) u.heap.size #[.slice none 0 0, .slice none 0 0, .int .i64 0, .bool false] 25 from Blk.new u _ _)
                  have sb10 : W.heap.size ≤ u.heap.size := Below.size hu.1
                  have O1 := Lib.hid ((show Stable (fun _ => True) from tr_st) _ _ hu.2.1 hb1)
                  generalize World.alloc u _ = u1 at E1 Y1 O1 hb1 ⊢
                  generalize u.heap.size = b10 at Y1 sb10 ⊢
                  clear hu hb1
                  refine anchorF (fun y => Ext W y ∧ (fun _ => True) y ∧ (fun z => Blk z b10 #[.slice none 0 0, .slice none 0 0, .int .i64 0, .bool false] 25) y) (fun y hy => hy.1) ((Ext.stable W).and (Stable.and (A := fun _ => True) (B := fun z => Blk z b10 #[.slice none 0 0, .slice none 0 0, .int .i64 0, .bool false] 25) tr_st (fun y z h k => h.below k h.lt))) ⟨E1.out, O1.out, Y1.out⟩ ?_
                  (try simp only [Act.put])
                  clear E1 Y1 O1
                  refine anyU_one 7 6 _ rfl rfl (by kernel_rfl) ?_
                  intro u hu
                  go_wp2_with fail
                  change ∃ C' : World → Prop, _ ∧ _ ∧ _ ∧ anyU _ _ _ _ _ _ 6 _ _ _
                  have hb1 : Below u.heap.size u (u.alloc (.cells #[.int .u8 abyt] 5)) := bel_alloc1 u _
                  have E1 := Lib.hid (Ext.trans hu.1 hb1)
                  have Y1 := Lib.hid (show Blk (u.alloc (.cells #[.int .u8 abyt] 5)) u.heap.size #[.int .u8 abyt] 5 from Blk.new u _ _)
                  have O1 := Lib.hid ((show Stable (fun z => Blk z b10 #[.slice none 0 0, .slice none 0 0, .int .i64 0, .bool false] 25) from (fun y z h k => h.below k h.lt)) _ _ hu.2.2 hb1)
                  generalize World.alloc u _ = u1 at E1 Y1 O1 hb1 ⊢
                  generalize u.heap.size = bb at Y1 ⊢
                  clear hu hb1
                  refine anchorF (fun y => Ext W y ∧ (fun z => Blk z bb #[.int .u8 abyt] 5) y ∧ (fun z => Blk z b10 #[.slice none 0 0, .slice none 0 0, .int .i64 0, .bool false] 25) y) (fun y hy => hy.1) ((Ext.stable W).and (Stable.and (A := fun z => Blk z bb #[.int .u8 abyt] 5) (B := fun z => Blk z b10 #[.slice none 0 0, .slice none 0 0, .int .i64 0, .bool false] 25) (fun y z h k => h.below k h.lt) (fun y z h k => h.below k h.lt))) ⟨E1.out, Y1.out, O1.out⟩ ?_
                  (try simp only [Act.put])
                  clear E1 Y1 O1
                  refine anyU_one 8 5 _ rfl rfl (by kernel_rfl) ?_
                  intro u hu
                  have KX := Lib.hid (show SrcW u (some ⟨bb, 0, none⟩) 1 1 [abyt] from .inl (blk_one hu.2.1))
                  go_wp2_with fail
                  refine (write_L x qq (some ⟨bb, 0, none⟩) 1 1 [abyt] u (Lib.hid (DXW.out.below hu.1)) QDX hqlt (by omega) HWDX KX HBR).mono ?_
                  rintro e u1 ⟨⟨x1, rfl, hd, hf, hs⟩, hb1⟩
                  go_wp2_with fail
                  change ∃ C' : World → Prop, _ ∧ _ ∧ _ ∧ anyU _ _ _ _ _ _ 5 _ _ _
                  have E1 := Lib.hid (Ext.trans hu.1 hb1)
                  have F1 := Lib.hid hf
                  have SA5 := Lib.hid (hs b5 (Nat.lt_of_lt_of_le l5 (Below.size hu.1)) SX5.out)
                  have SA6 := Lib.hid (hs b6 (Nat.lt_of_lt_of_le l6 (Below.size hu.1)) SX6.out)
                  have S10 := Lib.hid (hs b10 hu.2.2.lt (DXW.out.sep sb10))
                  have O1 := Lib.hid ((show Stable (fun z => Blk z b10 #[.slice none 0 0, .slice none 0 0, .int .i64 0, .bool false] 25) from (fun y z h k => h.below k h.lt)) _ _ hu.2.2 hb1)
                  refine anchorF (fun y => Ext W y ∧ (fun z => DkOk z x1) y ∧ (fun z => Blk z b10 #[.slice none 0 0, .slice none 0 0, .int .i64 0, .bool false] 25) y) (fun y hy => hy.1) ((Ext.stable W).and (Stable.and (A := fun z => DkOk z x1) (B := fun z => Blk z b10 #[.slice none 0 0, .slice none 0 0, .int .i64 0, .bool false] 25) (fun y z h k => h.below k) (fun y z h k => h.below k h.lt))) ⟨E1.out, hd, O1.out⟩ ?_
                  (try simp only [Act.put])
                  clear E1 hd hf hs hb1 hu KX O1
                  refine anyU_takeD (i := 9) (v := .tuple #[.agg x1.c, .int .i64 0]) 69 rfl rfl (by kernel_rfl) (by kernel_rfl) (by kernel_rfl) (fun _ _ _ h => h) (by kernel_rfl) ((Ext.stable W).and (Stable.and (A := fun z => DkOk z x1) (B := fun z => Blk z b10 #[.slice none 0 0, .slice none 0 0, .int .i64 0, .bool false] 25) (fun y z h k => h.below k) (fun y z h k => h.below k h.lt))) (fun y hy => hy.1) (yieldsU_val rfl (fun u hu => by go_simp)) ?_
                  refine anyU_takeD (i := 10) (v := .agg x1.c) 79 rfl rfl (by kernel_rfl) (by kernel_rfl) (by kernel_rfl) (fun _ _ _ h => h) (by kernel_rfl) ((Ext.stable W).and (Stable.and (A := fun z => DkOk z x1) (B := fun z => Blk z b10 #[.slice none 0 0, .slice none 0 0, .int .i64 0, .bool false] 25) (fun y z h k => h.below k) (fun y z h k => h.below k h.lt))) (fun y hy => hy.1) (yieldsU_val rfl (fun u hu => by go_simp)) ?_
                  refine anyU_takeD (i := 11) (v := .int .i64 0) 80 rfl rfl (by kernel_rfl) (by kernel_rfl) (by kernel_rfl) (fun _ _ _ h => h) (by kernel_rfl) ((Ext.stable W).and (Stable.and (A := fun z => DkOk z x1) (B := fun z => Blk z b10 #[.slice none 0 0, .slice none 0 0, .int .i64 0, .bool false] 25) (fun y z h k => h.below k) (fun y z h k => h.below k h.lt))) (fun y hy => hy.1) (yieldsU_val rfl (fun u hu => by go_simp)) ?_
                  simp only [Act.put, List.setIfInBounds_toArray, List.set_cons_succ, List.set_cons_zero]
                  refine anyU_one 13 1 _ rfl rfl (by kernel_rfl) ?_
                  intro u hu
                  have x0 := hu.2.2.cell 0
                  have x1c := hu.2.2.cell 1
                  have x2 := hu.2.2.cell 2
                  have x3 := hu.2.2.cell 3
                  have y0 := hu.2.2.frozen 0
                  have y1 := hu.2.2.frozen 1
                  have y2 := hu.2.2.frozen 2
                  have y3 := hu.2.2.frozen 3
                  simp at x0 x1c x2 x3
                  have XB := (((((hu.2.2).set 0 (.slice x1.ps x1.ns x1.cs)).set 1 (.slice x1.pp x1.np x1.cp)).set 2 (.int .i64 x1.left)).set 3 (.bool x1.st))
                  have XD := ((((((show DkOk u x1 from hu.2.1)).set (o := 0) (v := (.slice x1.ps x1.ns x1.cs)) S10.out).set (o := 1) (v := (.slice x1.pp x1.np x1.cp)) S10.out).set (o := 2) (v := (.int .i64 x1.left)) S10.out).set (o := 3) (v := (.bool x1.st)) S10.out)
                  have XE := ((((Below.setCell hu.1 (p := ⟨b10, 0, none⟩) sb10 (.slice x1.ps x1.ns x1.cs)).setCell (p := ⟨b10, 1, none⟩) sb10 (.slice x1.pp x1.np x1.cp)).setCell (p := ⟨b10, 2, none⟩) sb10 (.int .i64 x1.left)).setCell (p := ⟨b10, 3, none⟩) sb10 (.bool x1.st))
                  go_wp2_with fail
                  change ∃ C' : World → Prop, _ ∧ _ ∧ _ ∧ anyU _ _ _ _ _ _ 1 _ _ _
                  refine anchorF (fun y => Ext W y ∧ DkOk y x1 ∧ Blk y b10 x1.c 25) (fun y hy => hy.1) ((Ext.stable W).and (Stable.and (A := fun z => DkOk z x1) (B := fun z => Blk z b10 x1.c 25) (fun y z h k => h.below k) (fun y z h k => h.below k h.lt))) ⟨XE, XD, XB⟩ ?_
                  (try simp only [Act.put])
                  clear hu x0 x1c x2 x3 y0 y1 y2 y3 XB XD XE
                  refine anyU_tail 14 [] rfl rfl (by decide) (by kernel_rfl) ?_
                  intro u2 hu2
                  simp only [Act.put, List.filterMap_cons, List.filterMap_nil, List.getElem?_cons_succ, List.getElem?_cons_zero]
                  go_wp2_with fail
                  go_meet
                  exact ⟨b10, x1, rfl, rfl, Lib.hid ⟨hu2.2.2, hu2.2.1, F1.out, SA5.out, SA6.out, Nat.le_trans EU.out.size sb10, EU.out.trans (Below.mono hu2.1 EU.out.size)⟩⟩
              case rest =>
                obtain ⟨b10, x1, rfl, rfl, HC⟩ := hcut
                obtain ⟨G1, G2, G3, G4, G5, G6, G7⟩ := HC.out
                have l5 := Nat.lt_of_lt_of_le V5.out.lt G7.size
                replace V5 := Lib.hid (V5.out.below G7 V5.out.lt)
                replace V6 := Lib.hid (V6.out.below G7 V6.out.lt)
                replace V2 := Lib.hid (V2.out.below G7 V2.out.lt)
                replace D1 := Lib.hid (D1.out.below G7)
                replace SA := Lib.hid (SA.out.below G7)
                replace BB := Lib.hid (BB.out.trans (G7.mono BB.out.size))
                have V10 := Lib.hid G1
                have DX1 := Lib.hid G2
                have F1 := Lib.hid G3
                have SA5 := Lib.hid G4
                have SA6 := Lib.hid G5
                have Q1 := Lib.hid (wrote_run F1.out QX.out (by have := HH.out.2.2.2.2.2.1; have := D1.out.lens; have := HQ.out; omega) (by rw [WX.out]; simp))
                clear HC G1 G2 G3 G4 G5 G6 G7 ha1 ha2 hba
                have l6 := V6.out.lt
                have cV100 := V10.out.cell 0
                have cV101 := V10.out.cell 1
                have cV102 := V10.out.cell 2
                have cV103 := V10.out.cell 3
                have lV10 := V10.out.lt
                go_wp2_with fail
                refine (sync_X x1 _ DX1).mono ?_
                rintro e W131 ⟨⟨z, ez, rfl, hd, hf, hs⟩, hb⟩
                replace V5 := Lib.hid (V5.out.below hb V5.out.lt)
                replace V6 := Lib.hid (V6.out.below hb V6.out.lt)
                replace V2 := Lib.hid (V2.out.below hb V2.out.lt)
                replace D1 := Lib.hid (D1.out.below hb)
                replace SA := Lib.hid (SA.out.below hb)
                replace V10 := Lib.hid (V10.out.below hb V10.out.lt)
                replace DX1 := Lib.hid (DX1.out.below hb)
                replace BB := Lib.hid (BB.out.trans ((hb).mono BB.out.size))
                clear hb
                have DZ := Lib.hid hd
                have FZ := Lib.hid (show Synced x1 z ∧ ez = (if stopB x1.left x1.ws.length then 40 else 0) by
                  rcases hf with ⟨h, _⟩ | ⟨_, h1, h2⟩
                  · rw [Q1.out] at h; cases h
                  · exact ⟨h2, h1⟩)
                have SZ5 := Lib.hid (hs b5 l5 SA5.out)
                have SZ6 := Lib.hid (hs b6 l6 SA6.out)
                clear hd hf hs
                clear cV100 cV101 cV102 cV103 lV10
                have f0 := V5.out.frozen 0; have f1 := V5.out.frozen 1; have f2 := V5.out.frozen 2; have f3 := V5.out.frozen 3
                obtain ⟨c0, c1, c2, c3, lb⟩ := blk4_facts V5.out
                have X5 := (((((V5.out).set 0 (.slice z.ps z.ns z.cs)).set 1 (.slice z.pp z.np z.cp)).set 2 (.int .i64 z.left)).set 3 (.bool z.st))
                have X6 := (((((V6.out).other (b' := b5) 0 (.slice z.ps z.ns z.cs) h56.symm).other (b' := b5) 1 (.slice z.pp z.np z.cp) h56.symm).other (b' := b5) 2 (.int .i64 z.left) h56.symm).other (b' := b5) 3 (.bool z.st) h56.symm)
                have X2 := (((((V2.out).other (b' := b5) 0 (.slice z.ps z.ns z.cs) (by omega)).other (b' := b5) 1 (.slice z.pp z.np z.cp) (by omega)).other (b' := b5) 2 (.int .i64 z.left) (by omega)).other (b' := b5) 3 (.bool z.st) (by omega))
                have XD := (((((D1.out).set (o := 0) (v := (.slice z.ps z.ns z.cs)) S5.out).set (o := 1) (v := (.slice z.pp z.np z.cp)) S5.out).set (o := 2) (v := (.int .i64 z.left)) S5.out).set (o := 3) (v := (.bool z.st)) S5.out)
                have XZ := (((((DZ.out).set (o := 0) (v := (.slice z.ps z.ns z.cs)) SZ5.out).set (o := 1) (v := (.slice z.pp z.np z.cp)) SZ5.out).set (o := 2) (v := (.int .i64 z.left)) SZ5.out).set (o := 3) (v := (.bool z.st)) SZ5.out)
                have XB := (((((BB.out).setCell (p := ⟨b5, 0, none⟩) hw5 (.slice z.ps z.ns z.cs)).setCell (p := ⟨b5, 1, none⟩) hw5 (.slice z.pp z.np z.cp)).setCell (p := ⟨b5, 2, none⟩) hw5 (.int .i64 z.left)).setCell (p := ⟨b5, 3, none⟩) hw5 (.bool z.st))
                have XS := (((((SA.out).set (o := 0) (v := (.slice z.ps z.ns z.cs)) (b := b5) (fun h a ha => (HA5.out a ha h).1)).set (o := 1) (v := (.slice z.pp z.np z.cp)) (b := b5) (fun h a ha => (HA5.out a ha h).1)).set (o := 2) (v := (.int .i64 z.left)) (b := b5) (fun h a ha => (HA5.out a ha h).1)).set (o := 3) (v := (.bool z.st)) (b := b5) (fun h a ha => (HA5.out a ha h).1))
                go_wp2_with fail
                refine ⟨⟨k + 1, ez, z, by omega, by go_num, rfl, Lib.hid ?_, Lib.hid X5, Lib.hid XZ, SZ5, SZ6, Lib.hid X6, Lib.hid X2, Lib.hid XD, Lib.hid XS, Lib.hid XB⟩, ?_⟩
                · rcases half_next HH.out (by rw [NWL.out]; exact hlt) F1.out HAW.out FZ.out.1 Q1.out with ⟨h1, h2⟩ | ⟨h1, h2, h3⟩
                  · exact .inl ⟨by rw [FZ.out.2, h1]; rfl, h2⟩
                  · exact .inr ⟨by rw [FZ.out.2, h1]; rfl, h2, h3⟩
                · simp only [intOf]; omega
            case neg =>
              go_upto_region 8 with fail
              go_cut [56] (fun s56 wx => s56 = .bool false ∧ wx = wr)
              case first =>
                rcases HL.out with ⟨rfl, hH⟩ | ⟨rfl, _, _⟩
                · have hk2 : k = sn := by omega
                  subst hk2
                  go_wp2_with fail
                  go_meet
                  exact ⟨rfl, rfl⟩
                · by_cases hlt : k < sn
                  · go_wp2_with fail
                    go_meet
                    exact ⟨rfl, rfl⟩
                  · have hk2 : k = sn := by omega
                    subst hk2
                    go_wp2_with fail
                    go_meet
                    exact ⟨rfl, rfl⟩
              case rest =>
                obtain ⟨rfl, hwc⟩ := hcut
                subst hwc
                have HWX := Lib.hid (show Whole d WL x ∧ er = (if stopB d.left WL.length then 40 else 0) by
                  rcases HL.out with ⟨rfl, hH⟩ | ⟨rfl, h1, h2⟩
                  · have hk2 : k = WL.length := by rw [NWL.out]; omega
                    subst hk2
                    obtain ⟨h1, h2⟩ := half_end hH
                    exact ⟨h1, by rw [h2]; rfl⟩
                  · exact ⟨h1, by rw [h2]; rfl⟩)
                clear HL hgo hk
                go_wp2_with fail
                go_loopw [12] (fun i wr => ∃ (k : Nat) (y : Dk), k ≤ sn ∧ i = .int .i64 k ∧ Hid (Pend d WL k y) ∧ Hid (Blk wr b6 y.c 25) ∧ Hid (DkOk wr y) ∧ Hid (DkSep y b5) ∧ Hid (DkSep y b6) ∧ Hid (Blk wr b5 x.c 25) ∧ Hid (DkOk wr x) ∧ Hid (Blk wr nV2 d.c 25) ∧ Hid (DkOk wr d) ∧ Hid (ActsV wr sp sn qs) ∧ Hid (Below w.heap.size w wr)) (fun i _ => sn - (intOf i).toNat)
                case atStart => exact ⟨0, d, Nat.zero_le _, rfl, Lib.hid (pend_start QD.out WD.out), V6, D1, S5, S6, V5, DX, V2, D1, SA, BB⟩
                case round =>
                  obtain ⟨k, y, hk, rfl, HP, V6x, DYx, SY5, SY6, V5x, DXx, V2x, D1x, SAx, BBx⟩ := hrel
                  clear V5 V6 V2 D1 DX SA BB
                  have V5 := V5x; have V6 := V6x; have V2 := V2x; have D1 := D1x; have SA := SAx; have BB := BBx; have DX := DXx; have DY := DYx
                  clear V5x V6x V2x D1x SAx BBx DXx DYx
                  by_cases hlt : k < sn
                  case pos =>
                    have QY := Lib.hid HP.out.1
                    have nx : y.ns = d.ns := by rw [DY.out.lens.1, D1.out.lens.1, HP.out.2.2.1]
                    have HAW := Lib.hid (AW.out k hlt)
                    obtain ⟨ba, oa, hsp, hba, ha0, ha1, ha2, haok⟩ := SA.out.at hlt
                    obtain ⟨⟨asy, apos, abyt⟩, hx⟩ : ∃ y, qs.getD k ac0 = y := ⟨_, rfl⟩
                    rw [hx] at HAW ha0 ha1 ha2 haok
                    have HQ := Lib.hid (qOf_lt (ns := d.ns) (a := ⟨asy, apos, abyt⟩) hns)
                    have HQI := Lib.hid (qOf_int (ns := d.ns) (a := ⟨asy, apos, abyt⟩) hns)
                    obtain ⟨qq, hqq⟩ : ∃ q, qOf d.ns ⟨asy, apos, abyt⟩ = q := ⟨_, rfl⟩
                    rw [hqq] at HAW HQ HQI
                    dsimp only at HAW ha1 ha2 HQI
                    have hqlt : qq < y.ns := by rw [nx]; exact HQ.out
                    have hp0 : 0 ≤ apos := haok.1.1
                    have hp1 : apos ≤ 255 := haok.1.2
                    have HBR := Lib.hid (one_rng (show 0 ≤ abyt ∧ abyt ≤ 255 from haok.2))
                    have HWR := Lib.hid (wrap_u8 hp0 hp1)
                    have HTM := Lib.hid (show apos.tmod (d.ns : Int) = (qq : Int) by rw [Int.tmod_eq_emod_of_nonneg hp0]; exact HQI.out)
                    have HNZ := Lib.hid (show ¬ d.ns = 0 by omega)
                    have HYL := Lib.hid (show y.ws.length = k by have := congrArg List.length HP.out.2.1; have h2 := NWL.out; simp at this; omega)
                    clear hx hqq haok ha0 nx
                    have hsp0 := hsp
                    clear hsp
                    subst hsp0
                    go_upto_region 18 with fail
                    generalize hu3 : wr = u3 at V5 V6 V2 DX DY D1 SA BB ha1 ha2 hba ⊢
                    clear hu3
                    go_cut [13, 14] (fun s10 s11 wx => ∃ b10 x1, s10 = .pointer (some ⟨b10, 0, none⟩) ∧ s11 = .int .i64 0 ∧ Hid (Blk wx b10 x1.c 25 ∧ DkOk wx x1 ∧ Wrote y qq [abyt] x1 ∧ DkSep x1 b5 ∧ DkSep x1 b6 ∧ u3.heap.size ≤ b10 ∧ Below u3.heap.size u3 wx))
                    case first =>
                      refine wp_region_any (by kernel_rfl) ?_
                      change wpAny _ _ _ _ _ _ _ (World.drew _)
                      generalize hWD : World.drew _ = W
                      have V5W := Lib.hid (show Blk W b5 x.c 25 by rw [← hWD]; exact V5.out)
                      have V6W := Lib.hid (show Blk W b6 y.c 25 by rw [← hWD]; exact V6.out)
                      have V2W := Lib.hid (show Blk W nV2 d.c 25 by rw [← hWD]; exact V2.out)
                      have DXW := Lib.hid (show DkOk W x by rw [← hWD]; exact DX.out.below ((Below.refl _ _).drew))
                      have D1W := Lib.hid (show DkOk W d by rw [← hWD]; exact D1.out.below ((Below.refl _ _).drew))
                      have SAW := Lib.hid (show ActsV W (some ⟨ba, oa, none⟩) sn qs by rw [← hWD]; exact SA.out.below ((Below.refl _ _).drew))
                      have BW := Lib.hid (show Below w.heap.size w W by rw [← hWD]; exact BB.out.drew)
                      have hbW : ba < W.heap.size := by rw [← hWD]; exact hba
                      have ha1W : W.cell? ⟨ba, oa + k * 3 + 1, none⟩ = some (.int .u8 apos) := by rw [← hWD]; exact ha1
                      have ha2W : W.cell? ⟨ba, oa + k * 3 + 2, none⟩ = some (.int .u8 abyt) := by rw [← hWD]; exact ha2
                      have EU := Lib.hid (show Below u3.heap.size u3 W by rw [← hWD]; exact (Below.refl _ _).drew)
                      have DYW := Lib.hid (show DkOk W y by rw [← hWD]; exact DY.out.below ((Below.refl _ _).drew))
                      clear hWD
                      have A1 := Lib.hid (fun u (hu : Ext W u) => (Below.cell hu (p := ⟨ba, oa + k * 3 + 1, none⟩) hbW).trans ha1W)
                      have A2 := Lib.hid (fun u (hu : Ext W u) => (Below.cell hu (p := ⟨ba, oa + k * 3 + 2, none⟩) hbW).trans ha2W)
                      have hCD : ∀ u, Ext W u → Ext W u := fun u hu => hu
                      have QDY := QY
                      have HWDY := Lib.hid (show y.ws.length < 4096 by rw [HYL.out]; omega)
                      have l5 := V5W.out.lt
                      have l6 := V6W.out.lt
                      refine region_U (D := Ext W) (fun y => Ext W y ∧ (fun _ => True) y ∧ (fun _ => True) y) [23] ⟨Ext.refl W, trivial, trivial⟩ ?_
                      refine anyU_takeD (i := 0) (v := .agg y.c) 95 rfl rfl (by kernel_rfl) (by kernel_rfl) (by kernel_rfl) (fun _ _ _ h => h) (by kernel_rfl) ((Ext.stable W).and (Stable.and (A := fun _ => True) (B := fun _ => True) tr_st tr_st)) (fun y hy => hy.1) (yieldsU_val rfl (fun u hu => by have c := (V6W.out.below hu V6W.out.lt).cell 0; have c1 := (V6W.out.below hu V6W.out.lt).cell 1; have c2 := (V6W.out.below hu V6W.out.lt).cell 2; have c3 := (V6W.out.below hu V6W.out.lt).cell 3; simp at c c1 c2 c3; go_simp)) ?_
                      refine anyU_takeD (i := 1) (v := .slice (some ⟨ba, oa, none⟩) sn sc) 96 rfl rfl (by kernel_rfl) (by kernel_rfl) (by kernel_rfl) (fun _ _ _ h => h) (by kernel_rfl) ((Ext.stable W).and (Stable.and (A := fun _ => True) (B := fun _ => True) tr_st tr_st)) (fun y hy => hy.1) (yieldsU_val rfl (fun u hu => by go_simp)) ?_
                      refine anyU_takeD (i := 2) (v := .int .i64 (k : Int)) 97 rfl rfl (by kernel_rfl) (by kernel_rfl) (by kernel_rfl) (fun _ _ _ h => h) (by kernel_rfl) ((Ext.stable W).and (Stable.and (A := fun _ => True) (B := fun _ => True) tr_st tr_st)) (fun y hy => hy.1) (yieldsU_val rfl (fun u hu => by go_simp)) ?_
                      refine anyU_takeD (i := 3) (v := .pointer (some ⟨ba, oa + k * 3, none⟩)) 98 rfl rfl (by kernel_rfl) (by kernel_rfl) (by kernel_rfl) (fun _ _ _ h => h) (by kernel_rfl) ((Ext.stable W).and (Stable.and (A := fun _ => True) (B := fun _ => True) tr_st tr_st)) (fun y hy => hy.1) (yieldsU_val rfl (fun u hu => by go_simp)) ?_
                      refine anyU_takeD (i := 4) (v := .pointer (some ⟨ba, oa + k * 3 + 1, none⟩)) 99 rfl rfl (by kernel_rfl) (by kernel_rfl) (by kernel_rfl) (fun _ _ _ h => h) (by kernel_rfl) ((Ext.stable W).and (Stable.and (A := fun _ => True) (B := fun _ => True) tr_st tr_st)) (fun y hy => hy.1) (yieldsU_val rfl (fun u hu => by go_simp)) ?_
                      refine anyU_takeD (i := 5) (v := .int .u8 apos) 100 rfl rfl (by kernel_rfl) (by kernel_rfl) (by kernel_rfl) (fun _ _ _ h => h) (by kernel_rfl) ((Ext.stable W).and (Stable.and (A := fun _ => True) (B := fun _ => True) tr_st tr_st)) (fun y hy => hy.1) (yieldsU_val rfl (fun u hu => by have c := A1.out u hu; go_simp)) ?_
                      simp only [Act.put, List.setIfInBounds_toArray, List.set_cons_succ, List.set_cons_zero]
                      refine anyU_takeD (i := 6) (v := .int .i64 apos) 101 rfl rfl (by kernel_rfl) (by kernel_rfl) (by kernel_rfl) (fun _ _ _ h => h) (by kernel_rfl) ((Ext.stable W).and (Stable.and (A := fun _ => True) (B := fun _ => True) tr_st tr_st)) (fun y hy => hy.1) (yieldsU_val rfl (fun u hu => by have c := HWR.out; go_simp)) ?_
                      refine anyU_takeD (i := 7) (v := .pointer (some ⟨nV2, 0, none⟩)) 102 rfl rfl (by kernel_rfl) (by kernel_rfl) (by kernel_rfl) (fun _ _ _ h => h) (by kernel_rfl) ((Ext.stable W).and (Stable.and (A := fun _ => True) (B := fun _ => True) tr_st tr_st)) (fun y hy => hy.1) (yieldsU_val rfl (fun u hu => by go_simp)) ?_
                      refine anyU_takeD (i := 8) (v := .slice d.ps d.ns d.cs) 103 rfl rfl (by kernel_rfl) (by kernel_rfl) (by kernel_rfl) (fun _ _ _ h => h) (by kernel_rfl) ((Ext.stable W).and (Stable.and (A := fun _ => True) (B := fun _ => True) tr_st tr_st)) (fun y hy => hy.1) (yieldsU_val rfl (fun u hu => by have c := (V2W.out.below hu V2W.out.lt).cell 0; simp at c; go_simp)) ?_
                      refine anyU_takeD (i := 9) (v := .int .i64 (d.ns : Int)) 104 rfl rfl (by kernel_rfl) (by kernel_rfl) (by kernel_rfl) (fun _ _ _ h => h) (by kernel_rfl) ((Ext.stable W).and (Stable.and (A := fun _ => True) (B := fun _ => True) tr_st tr_st)) (fun y hy => hy.1) (yieldsU_val rfl (fun u hu => by go_simp)) ?_
                      refine anyU_takeD (i := 10) (v := .int .i64 (qq : Int)) 105 rfl rfl (by kernel_rfl) (by kernel_rfl) (by kernel_rfl) (fun _ _ _ h => h) (by kernel_rfl) ((Ext.stable W).and (Stable.and (A := fun _ => True) (B := fun _ => True) tr_st tr_st)) (fun y hy => hy.1) (yieldsU_val rfl (fun u hu => by have c := HTM.out; have c2 := HNZ.out; go_simp)) ?_
                      simp only [Act.put, List.setIfInBounds_toArray, List.set_cons_succ, List.set_cons_zero]
                      refine anyU_takeD (i := 11) (v := .slice (some ⟨ba, oa, none⟩) sn sc) 106 rfl rfl (by kernel_rfl) (by kernel_rfl) (by kernel_rfl) (fun _ _ _ h => h) (by kernel_rfl) ((Ext.stable W).and (Stable.and (A := fun _ => True) (B := fun _ => True) tr_st tr_st)) (fun y hy => hy.1) (yieldsU_val rfl (fun u hu => by go_simp)) ?_
                      refine anyU_takeD (i := 12) (v := .int .i64 (k : Int)) 107 rfl rfl (by kernel_rfl) (by kernel_rfl) (by kernel_rfl) (fun _ _ _ h => h) (by kernel_rfl) ((Ext.stable W).and (Stable.and (A := fun _ => True) (B := fun _ => True) tr_st tr_st)) (fun y hy => hy.1) (yieldsU_val rfl (fun u hu => by go_simp)) ?_
                      refine anyU_takeD (i := 13) (v := .pointer (some ⟨ba, oa + k * 3, none⟩)) 108 rfl rfl (by kernel_rfl) (by kernel_rfl) (by kernel_rfl) (fun _ _ _ h => h) (by kernel_rfl) ((Ext.stable W).and (Stable.and (A := fun _ => True) (B := fun _ => True) tr_st tr_st)) (fun y hy => hy.1) (yieldsU_val rfl (fun u hu => by go_simp)) ?_
                      refine anyU_takeD (i := 14) (v := .pointer (some ⟨ba, oa + k * 3 + 2, none⟩)) 109 rfl rfl (by kernel_rfl) (by kernel_rfl) (by kernel_rfl) (fun _ _ _ h => h) (by kernel_rfl) ((Ext.stable W).and (Stable.and (A := fun _ => True) (B := fun _ => True) tr_st tr_st)) (fun y hy => hy.1) (yieldsU_val rfl (fun u hu => by go_simp)) ?_
                      refine anyU_takeD (i := 15) (v := .int .u8 abyt) 110 rfl rfl (by kernel_rfl) (by kernel_rfl) (by kernel_rfl) (fun _ _ _ h => h) (by kernel_rfl) ((Ext.stable W).and (Stable.and (A := fun _ => True) (B := fun _ => True) tr_st tr_st)) (fun y hy => hy.1) (yieldsU_val rfl (fun u hu => by have c := A2.out u hu; go_simp)) ?_
                      simp only [Act.put, List.setIfInBounds_toArray, List.set_cons_succ, List.set_cons_zero]
                      refine anyU_two 16 21 7 _ _ rfl rfl rfl rfl (by kernel_rfl) ?kw1 ?kw2
                      case kw1 =>
                        intro u hu
                        go_wp2_with fail
                        change ∃ C' : World → Prop, _ ∧ _ ∧ _ ∧ anyU _ _ _ _ _ _ 7 _ _ _
                        have hb1 : Below u.heap.size u (u.alloc (.cells #[.int .u8 abyt] 5)) := bel_alloc1 u _
                        have E1 := Lib.hid (Ext.trans hu.1 hb1)
                        have Y1 := Lib.hid (show Blk (u.alloc (.cells #[.int .u8 abyt] 5)) u.heap.size #[.int .u8 abyt] 5 from Blk.new u _ _)
                        have O1 := Lib.hid ((show Stable (fun _ => True) from tr_st) _ _ hu.2.2 hb1)
                        generalize World.alloc u _ = u1 at E1 Y1 O1 hb1 ⊢
                        generalize u.heap.size = bb at Y1 ⊢
                        clear hu hb1
                        refine anchorF (fun y => Ext W y ∧ (fun z => Blk z bb #[.int .u8 abyt] 5) y ∧ (fun _ => True) y) (fun y hy => hy.1) ((Ext.stable W).and (Stable.and (A := fun z => Blk z bb #[.int .u8 abyt] 5) (B := fun _ => True) (fun y z h k => h.below k h.lt) tr_st)) ⟨E1.out, Y1.out, O1.out⟩ ?_
                        (try simp only [Act.put])
                        clear E1 Y1 O1
                        refine anyU_two 17 21 6 _ _ rfl rfl rfl rfl (by kernel_rfl) ?kw3 ?kw4
                        case kw3 =>
                          intro u hu
                          have KX := Lib.hid (show SrcW u (some ⟨bb, 0, none⟩) 1 1 [abyt] from .inl (blk_one hu.2.1))
                          go_wp2_with fail
                          refine (write_L y qq (some ⟨bb, 0, none⟩) 1 1 [abyt] u (Lib.hid (DYW.out.below hu.1)) QDY hqlt (by omega) HWDY KX HBR).mono ?_
                          rintro e u1 ⟨⟨x1, rfl, hd, hf, hs⟩, hb1⟩
                          go_wp2_with fail
                          change ∃ C' : World → Prop, _ ∧ _ ∧ _ ∧ anyU _ _ _ _ _ _ 6 _ _ _
                          have E1 := Lib.hid (Ext.trans hu.1 hb1)
                          have F1 := Lib.hid hf
                          have SA5 := Lib.hid (hs b5 (Nat.lt_of_lt_of_le l5 (Below.size hu.1)) SY5.out)
                          have SA6 := Lib.hid (hs b6 (Nat.lt_of_lt_of_le l6 (Below.size hu.1)) SY6.out)
                          have O1 := Lib.hid ((show Stable (fun _ => True) from tr_st) _ _ hu.2.2 hb1)
                          refine anchorF (fun y => Ext W y ∧ (fun z => DkOk z x1) y ∧ (fun _ => True) y) (fun y hy => hy.1) ((Ext.stable W).and (Stable.and (A := fun z => DkOk z x1) (B := fun _ => True) (fun y z h k => h.below k) tr_st)) ⟨E1.out, hd, O1.out⟩ ?_
                          (try simp only [Act.put])
                          clear E1 hd hf hs hb1 hu KX O1
                          refine anyU_takeD (i := 18) (v := .tuple #[.agg x1.c, .int .i64 0]) 94 rfl rfl (by kernel_rfl) (by kernel_rfl) (by kernel_rfl) (fun _ _ _ h => h) (by kernel_rfl) ((Ext.stable W).and (Stable.and (A := fun z => DkOk z x1) (B := fun _ => True) (fun y z h k => h.below k) tr_st)) (fun y hy => hy.1) (yieldsU_val rfl (fun u hu => by go_simp)) ?_
                          refine anyU_takeD (i := 19) (v := .agg x1.c) 113 rfl rfl (by kernel_rfl) (by kernel_rfl) (by kernel_rfl) (fun _ _ _ h => h) (by kernel_rfl) ((Ext.stable W).and (Stable.and (A := fun z => DkOk z x1) (B := fun _ => True) (fun y z h k => h.below k) tr_st)) (fun y hy => hy.1) (yieldsU_val rfl (fun u hu => by go_simp)) ?_
                          refine anyU_takeD (i := 20) (v := .int .i64 0) 114 rfl rfl (by kernel_rfl) (by kernel_rfl) (by kernel_rfl) (fun _ _ _ h => h) (by kernel_rfl) ((Ext.stable W).and (Stable.and (A := fun z => DkOk z x1) (B := fun _ => True) (fun y z h k => h.below k) tr_st)) (fun y hy => hy.1) (yieldsU_val rfl (fun u hu => by go_simp)) ?_
                          simp only [Act.put, List.setIfInBounds_toArray, List.set_cons_succ, List.set_cons_zero]
                          refine anyU_one 21 2 _ rfl rfl (by kernel_rfl) ?_
                          intro u hu
                          go_wp2_with fail
                          change ∃ C' : World → Prop, _ ∧ _ ∧ _ ∧ anyU _ _ _ _ _ _ 2 _ _ _
                          have hb1 : Below u.heap.size u (u.alloc (.cells #[.slice none 0 0, .slice none 0 0, .int .i64 0, .bool false] 25)) := bel_alloc1 u _
                          have E1 := Lib.hid (Ext.trans hu.1 hb1)
                          have Y1 := Lib.hid (show Blk (u.alloc (.cells #[.slice none 0 0, .slice none 0 0, .int .i64 0, .bool false] 25)) u.heap.size #[.slice none 0 0, .slice none 0 0, .int .i64 0, .bool false] 25 from Blk.new u _ _)
                          have sb10 : W.heap.size ≤ u.heap.size := Below.size hu.1
                          have S10' := (DkOk.sep hu.2.1 (Nat.le_refl u.heap.size))
                          have O1 := Lib.hid ((show Stable (fun z => DkOk z x1) from (fun y z h k => h.below k)) _ _ hu.2.1 hb1)
                          generalize World.alloc u _ = u1 at E1 Y1 O1 hb1 ⊢
                          generalize u.heap.size = b10 at Y1 sb10 S10' ⊢
                          clear hu hb1
                          have S10 := Lib.hid S10'
                          clear S10'
                          refine anchorF (fun y => Ext W y ∧ (fun z => DkOk z x1) y ∧ (fun z => Blk z b10 #[.slice none 0 0, .slice none 0 0, .int .i64 0, .bool false] 25) y) (fun y hy => hy.1) ((Ext.stable W).and (Stable.and (A := fun z => DkOk z x1) (B := fun z => Blk z b10 #[.slice none 0 0, .slice none 0 0, .int .i64 0, .bool false] 25) (fun y z h k => h.below k) (fun y z h k => h.below k h.lt))) ⟨E1.out, O1.out, Y1.out⟩ ?_
                          (try simp only [Act.put])
                          clear E1 Y1 O1
                          refine anyU_one 22 1 _ rfl rfl (by kernel_rfl) ?_
                          intro u hu
                          have x0 := hu.2.2.cell 0
                          have x1c := hu.2.2.cell 1
                          have x2 := hu.2.2.cell 2
                          have x3 := hu.2.2.cell 3
                          have y0 := hu.2.2.frozen 0
                          have y1 := hu.2.2.frozen 1
                          have y2 := hu.2.2.frozen 2
                          have y3 := hu.2.2.frozen 3
                          simp at x0 x1c x2 x3
                          have XB := (((((hu.2.2).set 0 (.slice x1.ps x1.ns x1.cs)).set 1 (.slice x1.pp x1.np x1.cp)).set 2 (.int .i64 x1.left)).set 3 (.bool x1.st))
                          have XD := ((((((show DkOk u x1 from hu.2.1)).set (o := 0) (v := (.slice x1.ps x1.ns x1.cs)) S10.out).set (o := 1) (v := (.slice x1.pp x1.np x1.cp)) S10.out).set (o := 2) (v := (.int .i64 x1.left)) S10.out).set (o := 3) (v := (.bool x1.st)) S10.out)
                          have XE := ((((Below.setCell hu.1 (p := ⟨b10, 0, none⟩) sb10 (.slice x1.ps x1.ns x1.cs)).setCell (p := ⟨b10, 1, none⟩) sb10 (.slice x1.pp x1.np x1.cp)).setCell (p := ⟨b10, 2, none⟩) sb10 (.int .i64 x1.left)).setCell (p := ⟨b10, 3, none⟩) sb10 (.bool x1.st))
                          go_wp2_with fail
                          change ∃ C' : World → Prop, _ ∧ _ ∧ _ ∧ anyU _ _ _ _ _ _ 1 _ _ _
                          refine anchorF (fun y => Ext W y ∧ DkOk y x1 ∧ Blk y b10 x1.c 25) (fun y hy => hy.1) ((Ext.stable W).and (Stable.and (A := fun z => DkOk z x1) (B := fun z => Blk z b10 x1.c 25) (fun y z h k => h.below k) (fun y z h k => h.below k h.lt))) ⟨XE, XD, XB⟩ ?_
                          (try simp only [Act.put])
                          clear hu x0 x1c x2 x3 y0 y1 y2 y3 XB XD XE
                          refine anyU_tail 23 [] rfl rfl (by decide) (by kernel_rfl) ?_
                          intro u2 hu2
                          simp only [Act.put, List.filterMap_cons, List.filterMap_nil, List.getElem?_cons_succ, List.getElem?_cons_zero]
                          go_wp2_with fail
                          go_meet
                          exact ⟨b10, x1, rfl, rfl, Lib.hid ⟨hu2.2.2, hu2.2.1, F1.out, SA5.out, SA6.out, Nat.le_trans EU.out.size sb10, EU.out.trans (Below.mono hu2.1 EU.out.size)⟩⟩
                        case kw4 =>
                          intro u hu
                          go_wp2_with fail
                          change ∃ C' : World → Prop, _ ∧ _ ∧ _ ∧ anyU _ _ _ _ _ _ 6 _ _ _
                          have hb1 : Below u.heap.size u (u.alloc (.cells #[.slice none 0 0, .slice none 0 0, .int .i64 0, .bool false] 25)) := bel_alloc1 u _
                          have E1 := Lib.hid (Ext.trans hu.1 hb1)
                          have Y1 := Lib.hid (show Blk (u.alloc (.cells #[.slice none 0 0, .slice none 0 0, .int .i64 0, .bool false] 25)) u.heap.size #[.slice none 0 0, .slice none 0 0, .int .i64 0, .bool false] 25 from Blk.new u _ _)
                          have sb10 : W.heap.size ≤ u.heap.size := Below.size hu.1
                          have O1 := Lib.hid ((show Stable (fun z => Blk z bb #[.int .u8 abyt] 5) from (fun y z h k => h.below k h.lt)) _ _ hu.2.1 hb1)
                          generalize World.alloc u _ = u1 at E1 Y1 O1 hb1 ⊢
                          generalize u.heap.size = b10 at Y1 sb10 ⊢
                          clear hu hb1
                          refine anchorF (fun y => Ext W y ∧ (fun z => Blk z bb #[.int .u8 abyt] 5) y ∧ (fun z => Blk z b10 #[.slice none 0 0, .slice none 0 0, .int .i64 0, .bool false] 25) y) (fun y hy => hy.1) ((Ext.stable W).and (Stable.and (A := fun z => Blk z bb #[.int .u8 abyt] 5) (B := fun z => Blk z b10 #[.slice none 0 0, .slice none 0 0, .int .i64 0, .bool false] 25) (fun y z h k => h.below k h.lt) (fun y z h k => h.below k h.lt))) ⟨E1.out, O1.out, Y1.out⟩ ?_
                          (try simp only [Act.put])
                          clear E1 Y1 O1
                          refine anyU_one 17 5 _ rfl rfl (by kernel_rfl) ?_
                          intro u hu
                          have KX := Lib.hid (show SrcW u (some ⟨bb, 0, none⟩) 1 1 [abyt] from .inl (blk_one hu.2.1))
                          go_wp2_with fail
                          refine (write_L y qq (some ⟨bb, 0, none⟩) 1 1 [abyt] u (Lib.hid (DYW.out.below hu.1)) QDY hqlt (by omega) HWDY KX HBR).mono ?_
                          rintro e u1 ⟨⟨x1, rfl, hd, hf, hs⟩, hb1⟩
                          go_wp2_with fail
                          change ∃ C' : World → Prop, _ ∧ _ ∧ _ ∧ anyU _ _ _ _ _ _ 5 _ _ _
                          have E1 := Lib.hid (Ext.trans hu.1 hb1)
                          have F1 := Lib.hid hf
                          have SA5 := Lib.hid (hs b5 (Nat.lt_of_lt_of_le l5 (Below.size hu.1)) SY5.out)
                          have SA6 := Lib.hid (hs b6 (Nat.lt_of_lt_of_le l6 (Below.size hu.1)) SY6.out)
                          have S10 := Lib.hid (hs b10 hu.2.2.lt (DYW.out.sep sb10))
                          have O1 := Lib.hid ((show Stable (fun z => Blk z b10 #[.slice none 0 0, .slice none 0 0, .int .i64 0, .bool false] 25) from (fun y z h k => h.below k h.lt)) _ _ hu.2.2 hb1)
                          refine anchorF (fun y => Ext W y ∧ (fun z => DkOk z x1) y ∧ (fun z => Blk z b10 #[.slice none 0 0, .slice none 0 0, .int .i64 0, .bool false] 25) y) (fun y hy => hy.1) ((Ext.stable W).and (Stable.and (A := fun z => DkOk z x1) (B := fun z => Blk z b10 #[.slice none 0 0, .slice none 0 0, .int .i64 0, .bool false] 25) (fun y z h k => h.below k) (fun y z h k => h.below k h.lt))) ⟨E1.out, hd, O1.out⟩ ?_
                          (try simp only [Act.put])
                          clear E1 hd hf hs hb1 hu KX O1
                          refine anyU_takeD (i := 18) (v := .tuple #[.agg x1.c, .int .i64 0]) 94 rfl rfl (by kernel_rfl) (by kernel_rfl) (by kernel_rfl) (fun _ _ _ h => h) (by kernel_rfl) ((Ext.stable W).and (Stable.and (A := fun z => DkOk z x1) (B := fun z => Blk z b10 #[.slice none 0 0, .slice none 0 0, .int .i64 0, .bool false] 25) (fun y z h k => h.below k) (fun y z h k => h.below k h.lt))) (fun y hy => hy.1) (yieldsU_val rfl (fun u hu => by go_simp)) ?_
                          refine anyU_takeD (i := 19) (v := .agg x1.c) 113 rfl rfl (by kernel_rfl) (by kernel_rfl) (by kernel_rfl) (fun _ _ _ h => h) (by kernel_rfl) ((Ext.stable W).and (Stable.and (A := fun z => DkOk z x1) (B := fun z => Blk z b10 #[.slice none 0 0, .slice none 0 0, .int .i64 0, .bool false] 25) (fun y z h k => h.below k) (fun y z h k => h.below k h.lt))) (fun y hy => hy.1) (yieldsU_val rfl (fun u hu => by go_simp)) ?_
                          refine anyU_takeD (i := 20) (v := .int .i64 0) 114 rfl rfl (by kernel_rfl) (by kernel_rfl) (by kernel_rfl) (fun _ _ _ h => h) (by kernel_rfl) ((Ext.stable W).and (Stable.and (A := fun z => DkOk z x1) (B := fun z => Blk z b10 #[.slice none 0 0, .slice none 0 0, .int .i64 0, .bool false] 25) (fun y z h k => h.below k) (fun y z h k => h.below k h.lt))) (fun y hy => hy.1) (yieldsU_val rfl (fun u hu => by go_simp)) ?_
                          simp only [Act.put, List.setIfInBounds_toArray, List.set_cons_succ, List.set_cons_zero]
                          refine anyU_one 22 1 _ rfl rfl (by kernel_rfl) ?_
                          intro u hu
                          have x0 := hu.2.2.cell 0
                          have x1c := hu.2.2.cell 1
                          have x2 := hu.2.2.cell 2
                          have x3 := hu.2.2.cell 3
                          have y0 := hu.2.2.frozen 0
                          have y1 := hu.2.2.frozen 1
                          have y2 := hu.2.2.frozen 2
                          have y3 := hu.2.2.frozen 3
                          simp at x0 x1c x2 x3
                          have XB := (((((hu.2.2).set 0 (.slice x1.ps x1.ns x1.cs)).set 1 (.slice x1.pp x1.np x1.cp)).set 2 (.int .i64 x1.left)).set 3 (.bool x1.st))
                          have XD := ((((((show DkOk u x1 from hu.2.1)).set (o := 0) (v := (.slice x1.ps x1.ns x1.cs)) S10.out).set (o := 1) (v := (.slice x1.pp x1.np x1.cp)) S10.out).set (o := 2) (v := (.int .i64 x1.left)) S10.out).set (o := 3) (v := (.bool x1.st)) S10.out)
                          have XE := ((((Below.setCell hu.1 (p := ⟨b10, 0, none⟩) sb10 (.slice x1.ps x1.ns x1.cs)).setCell (p := ⟨b10, 1, none⟩) sb10 (.slice x1.pp x1.np x1.cp)).setCell (p := ⟨b10, 2, none⟩) sb10 (.int .i64 x1.left)).setCell (p := ⟨b10, 3, none⟩) sb10 (.bool x1.st))
                          go_wp2_with fail
                          change ∃ C' : World → Prop, _ ∧ _ ∧ _ ∧ anyU _ _ _ _ _ _ 1 _ _ _
                          refine anchorF (fun y => Ext W y ∧ DkOk y x1 ∧ Blk y b10 x1.c 25) (fun y hy => hy.1) ((Ext.stable W).and (Stable.and (A := fun z => DkOk z x1) (B := fun z => Blk z b10 x1.c 25) (fun y z h k => h.below k) (fun y z h k => h.below k h.lt))) ⟨XE, XD, XB⟩ ?_
                          (try simp only [Act.put])
                          clear hu x0 x1c x2 x3 y0 y1 y2 y3 XB XD XE
                          refine anyU_tail 23 [] rfl rfl (by decide) (by kernel_rfl) ?_
                          intro u2 hu2
                          simp only [Act.put, List.filterMap_cons, List.filterMap_nil, List.getElem?_cons_succ, List.getElem?_cons_zero]
                          go_wp2_with fail
                          go_meet
                          exact ⟨b10, x1, rfl, rfl, Lib.hid ⟨hu2.2.2, hu2.2.1, F1.out, SA5.out, SA6.out, Nat.le_trans EU.out.size sb10, EU.out.trans (Below.mono hu2.1 EU.out.size)⟩⟩
                      case kw2 =>
                        intro u hu
                        go_wp2_with fail
                        change ∃ C' : World → Prop, _ ∧ _ ∧ _ ∧ anyU _ _ _ _ _ _ 7 _ _ _
                        have hb1 : Below u.heap.size u (u.alloc (.cells #[.slice none 0 0, .slice none 0 0, .int .i64 0, .bool false] 25)) := bel_alloc1 u _
                        have E1 := Lib.hid (Ext.trans hu.1 hb1)
                        have Y1 := Lib.hid (show Blk (u.alloc (.cells #[.slice none 0 0, .slice none 0 0, .int .i64 0, .bool false] 25)) u.heap.size #[.slice none 0 0, .slice none 0 0, .int .i64 0, .bool false] 25 from Blk.new u _ _)
                        have sb10 : W.heap.size ≤ u.heap.size := Below.size hu.1
                        have O1 := Lib.hid ((show Stable (fun _ => True) from tr_st) _ _ hu.2.1 hb1)
                        generalize World.alloc u _ = u1 at E1 Y1 O1 hb1 ⊢
                        generalize u.heap.size = b10 at Y1 sb10 ⊢
                        clear hu hb1
                        refine anchorF (fun y => Ext W y ∧ (fun _ => True) y ∧ (fun z => Blk z b10 #[.slice none 0 0, .slice none 0 0, .int .i64 0, .bool false] 25) y) (fun y hy => hy.1) ((Ext.stable W).and (Stable.and (A := fun _ => True) (B := fun z => Blk z b10 #[.slice none 0 0, .slice none 0 0, .int .i64 0, .bool false] 25) tr_st (fun y z h k => h.below k h.lt))) ⟨E1.out, O1.out, Y1.out⟩ ?_
                        (try simp only [Act.put])
                        clear E1 Y1 O1
                        refine anyU_one 16 6 _ rfl rfl (by kernel_rfl) ?_
                        intro u hu
                        go_wp2_with fail
                        change ∃ C' : World → Prop, _ ∧ _ ∧ _ ∧ anyU _ _ _ _ _ _ 6 _ _ _
                        have hb1 : Below u.heap.size u (u.alloc (.cells #[.int .u8 abyt] 5)) := bel_alloc1 u _
                        have E1 := Lib.hid (Ext.trans hu.1 hb1)
                        have Y1 := Lib.hid (show Blk (u.alloc (.cells #[.int .u8 abyt] 5)) u.heap.size #[.int .u8 abyt] 5 from Blk.new u _ _)
                        have O1 := Lib.hid ((show Stable (fun z => Blk z b10 #[.slice none 0 0, .slice none 0 0, .int .i64 0, .bool false] 25) from (fun y z h k => h.below k h.lt)) _ _ hu.2.2 hb1)
                        generalize World.alloc u _ = u1 at E1 Y1 O1 hb1 ⊢
                        generalize u.heap.size = bb at Y1 ⊢
                        clear hu hb1
                        refine anchorF (fun y => Ext W y ∧ (fun z => Blk z bb #[.int .u8 abyt] 5) y ∧ (fun z => Blk z b10 #[.slice none 0 0, .slice none 0 0, .int .i64 0, .bool false] 25) y) (fun y hy => hy.1) ((Ext.stable W).and (Stable.and (A := fun z => Blk z bb #[.int .u8 abyt] 5) (B := fun z => Blk z b10 #[.slice none 0 0, .slice none 0 0, .int .i64 0, .bool false] 25) (fun y z h k => h.below k h.lt) (fun y z h k => h.below k h.lt))) ⟨E1.out, Y1.out, O1.out⟩ ?_
                        (try simp only [Act.put])
                        clear E1 Y1 O1
                        refine anyU_one 17 5 _ rfl rfl (by kernel_rfl) ?_
                        intro u hu
                        have KX := Lib.hid (show SrcW u (some ⟨bb, 0, none⟩) 1 1 [abyt] from .inl (blk_one hu.2.1))
                        go_wp2_with fail
                        refine (write_L y qq (some ⟨bb, 0, none⟩) 1 1 [abyt] u (Lib.hid (DYW.out.below hu.1)) QDY hqlt (by omega) HWDY KX HBR).mono ?_
                        rintro e u1 ⟨⟨x1, rfl, hd, hf, hs⟩, hb1⟩
                        go_wp2_with fail
                        change ∃ C' : World → Prop, _ ∧ _ ∧ _ ∧ anyU _ _ _ _ _ _ 5 _ _ _
                        have E1 := Lib.hid (Ext.trans hu.1 hb1)
                        have F1 := Lib.hid hf
                        have SA5 := Lib.hid (hs b5 (Nat.lt_of_lt_of_le l5 (Below.size hu.1)) SY5.out)
                        have SA6 := Lib.hid (hs b6 (Nat.lt_of_lt_of_le l6 (Below.size hu.1)) SY6.out)
                        have S10 := Lib.hid (hs b10 hu.2.2.lt (DYW.out.sep sb10))
                        have O1 := Lib.hid ((show Stable (fun z => Blk z b10 #[.slice none 0 0, .slice none 0 0, .int .i64 0, .bool false] 25) from (fun y z h k => h.below k h.lt)) _ _ hu.2.2 hb1)
                        refine anchorF (fun y => Ext W y ∧ (fun z => DkOk z x1) y ∧ (fun z => Blk z b10 #[.slice none 0 0, .slice none 0 0, .int .i64 0, .bool false] 25) y) (fun y hy => hy.1) ((Ext.stable W).and (Stable.and (A := fun z => DkOk z x1) (B := fun z => Blk z b10 #[.slice none 0 0, .slice none 0 0, .int .i64 0, .bool false] 25) (fun y z h k => h.below k) (fun y z h k => h.below k h.lt))) ⟨E1.out, hd, O1.out⟩ ?_
                        (try simp only [Act.put])
                        clear E1 hd hf hs hb1 hu KX O1
                        refine anyU_takeD (i := 18) (v := .tuple #[.agg x1.c, .int .i64 0]) 94 rfl rfl (by kernel_rfl) (by kernel_rfl) (by kernel_rfl) (fun _ _ _ h => h) (by kernel_rfl) ((Ext.stable W).and (Stable.and (A := fun z => DkOk z x1) (B := fun z => Blk z b10 #[.slice none 0 0, .slice none 0 0, .int .i64 0, .bool false] 25) (fun y z h k => h.below k) (fun y z h k => h.below k h.lt))) (fun y hy => hy.1) (yieldsU_val rfl (fun u hu => by go_simp)) ?_
                        refine anyU_takeD (i := 19) (v := .agg x1.c) 113 rfl rfl (by kernel_rfl) (by kernel_rfl) (by kernel_rfl) (fun _ _ _ h => h) (by kernel_rfl) ((Ext.stable W).and (Stable.and (A := fun z => DkOk z x1) (B := fun z => Blk z b10 #[.slice none 0 0, .slice none 0 0, .int .i64 0, .bool false] 25) (fun y z h k => h.below k) (fun y z h k => h.below k h.lt))) (fun y hy => hy.1) (yieldsU_val rfl (fun u hu => by go_simp)) ?_
                        refine anyU_takeD (i := 20) (v := .int .i64 0) 114 rfl rfl (by kernel_rfl) (by kernel_rfl) (by kernel_rfl) (fun _ _ _ h => h) (by kernel_rfl) ((Ext.stable W).and (Stable.and (A := fun z => DkOk z x1) (B := fun z => Blk z b10 #[.slice none 0 0, .slice none 0 0, .int .i64 0, .bool false] 25) (fun y z h k => h.below k) (fun y z h k => h.below k h.lt))) (fun y hy => hy.1) (yieldsU_val rfl (fun u hu => by go_simp)) ?_
                        simp only [Act.put, List.setIfInBounds_toArray, List.set_cons_succ, List.set_cons_zero]
                        refine anyU_one 22 1 _ rfl rfl (by kernel_rfl) ?_
                        intro u hu
                        have x0 := hu.2.2.cell 0
                        have x1c := hu.2.2.cell 1
                        have x2 := hu.2.2.cell 2
                        have x3 := hu.2.2.cell 3
                        have y0 := hu.2.2.frozen 0
                        have y1 := hu.2.2.frozen 1
                        have y2 := hu.2.2.frozen 2
                        have y3 := hu.2.2.frozen 3
                        simp at x0 x1c x2 x3
                        have XB := (((((hu.2.2).set 0 (.slice x1.ps x1.ns x1.cs)).set 1 (.slice x1.pp x1.np x1.cp)).set 2 (.int .i64 x1.left)).set 3 (.bool x1.st))
                        have XD := ((((((show DkOk u x1 from hu.2.1)).set (o := 0) (v := (.slice x1.ps x1.ns x1.cs)) S10.out).set (o := 1) (v := (.slice x1.pp x1.np x1.cp)) S10.out).set (o := 2) (v := (.int .i64 x1.left)) S10.out).set (o := 3) (v := (.bool x1.st)) S10.out)
                        have XE := ((((Below.setCell hu.1 (p := ⟨b10, 0, none⟩) sb10 (.slice x1.ps x1.ns x1.cs)).setCell (p := ⟨b10, 1, none⟩) sb10 (.slice x1.pp x1.np x1.cp)).setCell (p := ⟨b10, 2, none⟩) sb10 (.int .i64 x1.left)).setCell (p := ⟨b10, 3, none⟩) sb10 (.bool x1.st))
                        go_wp2_with fail
                        change ∃ C' : World → Prop, _ ∧ _ ∧ _ ∧ anyU _ _ _ _ _ _ 1 _ _ _
                        refine anchorF (fun y => Ext W y ∧ DkOk y x1 ∧ Blk y b10 x1.c 25) (fun y hy => hy.1) ((Ext.stable W).and (Stable.and (A := fun z => DkOk z x1) (B := fun z => Blk z b10 x1.c 25) (fun y z h k => h.below k) (fun y z h k => h.below k h.lt))) ⟨XE, XD, XB⟩ ?_
                        (try simp only [Act.put])
                        clear hu x0 x1c x2 x3 y0 y1 y2 y3 XB XD XE
                        refine anyU_tail 23 [] rfl rfl (by decide) (by kernel_rfl) ?_
                        intro u2 hu2
                        simp only [Act.put, List.filterMap_cons, List.filterMap_nil, List.getElem?_cons_succ, List.getElem?_cons_zero]
                        go_wp2_with fail
                        go_meet
                        exact ⟨b10, x1, rfl, rfl, Lib.hid ⟨hu2.2.2, hu2.2.1, F1.out, SA5.out, SA6.out, Nat.le_trans EU.out.size sb10, EU.out.trans (Below.mono hu2.1 EU.out.size)⟩⟩
                    case rest =>
                      obtain ⟨b10, x1, rfl, rfl, HC⟩ := hcut
                      obtain ⟨G1, G2, G3, G4, G5, G6, G7⟩ := HC.out
                      have l6 := Nat.lt_of_lt_of_le V6.out.lt G7.size
                      have hb10 : b6 < b10 := Nat.lt_of_lt_of_le V6.out.lt G6
                      replace V5 := Lib.hid (V5.out.below G7 V5.out.lt)
                      replace V6 := Lib.hid (V6.out.below G7 V6.out.lt)
                      replace V2 := Lib.hid (V2.out.below G7 V2.out.lt)
                      replace D1 := Lib.hid (D1.out.below G7)
                      replace DX := Lib.hid (DX.out.below G7)
                      replace SA := Lib.hid (SA.out.below G7)
                      replace BB := Lib.hid (BB.out.trans (G7.mono BB.out.size))
                      have V10 := Lib.hid G1
                      have DX1 := Lib.hid G2
                      have F1 := Lib.hid G3
                      have SA5 := Lib.hid G4
                      have SA6 := Lib.hid G5
                      clear HC G1 G2 G3 G4 G5 G6 G7 ha1 ha2 hba
                      have cV100 := V10.out.cell 0
                      have cV101 := V10.out.cell 1
                      have cV102 := V10.out.cell 2
                      have cV103 := V10.out.cell 3
                      have lV10 := V10.out.lt
                      have f0 := V6.out.frozen 0; have f1 := V6.out.frozen 1; have f2 := V6.out.frozen 2; have f3 := V6.out.frozen 3
                      obtain ⟨c0, c1, c2, c3, lb⟩ := blk4_facts V6.out
                      have X6 := (((((V6.out).set 0 (.slice x1.ps x1.ns x1.cs)).set 1 (.slice x1.pp x1.np x1.cp)).set 2 (.int .i64 x1.left)).set 3 (.bool x1.st))
                      have X5 := (((((V5.out).other (b' := b6) 0 (.slice x1.ps x1.ns x1.cs) h56).other (b' := b6) 1 (.slice x1.pp x1.np x1.cp) h56).other (b' := b6) 2 (.int .i64 x1.left) h56).other (b' := b6) 3 (.bool x1.st) h56)
                      have X2 := (((((V2.out).other (b' := b6) 0 (.slice x1.ps x1.ns x1.cs) (by omega)).other (b' := b6) 1 (.slice x1.pp x1.np x1.cp) (by omega)).other (b' := b6) 2 (.int .i64 x1.left) (by omega)).other (b' := b6) 3 (.bool x1.st) (by omega))
                      have XD := (((((D1.out).set (o := 0) (v := (.slice x1.ps x1.ns x1.cs)) S6.out).set (o := 1) (v := (.slice x1.pp x1.np x1.cp)) S6.out).set (o := 2) (v := (.int .i64 x1.left)) S6.out).set (o := 3) (v := (.bool x1.st)) S6.out)
                      have XX := (((((DX.out).set (o := 0) (v := (.slice x1.ps x1.ns x1.cs)) SX6.out).set (o := 1) (v := (.slice x1.pp x1.np x1.cp)) SX6.out).set (o := 2) (v := (.int .i64 x1.left)) SX6.out).set (o := 3) (v := (.bool x1.st)) SX6.out)
                      have XZ := (((((DX1.out).set (o := 0) (v := (.slice x1.ps x1.ns x1.cs)) SA6.out).set (o := 1) (v := (.slice x1.pp x1.np x1.cp)) SA6.out).set (o := 2) (v := (.int .i64 x1.left)) SA6.out).set (o := 3) (v := (.bool x1.st)) SA6.out)
                      have XB := (((((BB.out).setCell (p := ⟨b6, 0, none⟩) hw6 (.slice x1.ps x1.ns x1.cs)).setCell (p := ⟨b6, 1, none⟩) hw6 (.slice x1.pp x1.np x1.cp)).setCell (p := ⟨b6, 2, none⟩) hw6 (.int .i64 x1.left)).setCell (p := ⟨b6, 3, none⟩) hw6 (.bool x1.st))
                      have XS := (((((SA.out).set (o := 0) (v := (.slice x1.ps x1.ns x1.cs)) (b := b6) (fun h a ha => (HA5.out a ha h).2)).set (o := 1) (v := (.slice x1.pp x1.np x1.cp)) (b := b6) (fun h a ha => (HA5.out a ha h).2)).set (o := 2) (v := (.int .i64 x1.left)) (b := b6) (fun h a ha => (HA5.out a ha h).2)).set (o := 3) (v := (.bool x1.st)) (b := b6) (fun h a ha => (HA5.out a ha h).2))
                      go_wp2_with fail
                      refine ⟨⟨k + 1, x1, by omega, by go_num, Lib.hid ?_, Lib.hid X6, Lib.hid XZ, SA5, SA6, Lib.hid X5, Lib.hid XX, Lib.hid X2, Lib.hid XD, Lib.hid XS, Lib.hid XB⟩, ?_⟩
                      · exact pend_next HP.out (by rw [NWL.out]; exact hlt) F1.out HAW.out (by have := D1.out.lens; have := HQ.out; omega) (by have := NWL.out; omega)
                      · simp only [intOf]; omega
                  case neg =>
                    obtain rfl : k = sn := by omega
                    have HPW := Lib.hid (show Pend d WL WL.length y by rw [NWL.out]; exact HP.out)
                    clear HP
                    have QY := Lib.hid HPW.out.1
                    have l6 := V6.out.lt
                    have cV60 := V6.out.cell 0
                    have cV61 := V6.out.cell 1
                    have cV62 := V6.out.cell 2
                    have cV63 := V6.out.cell 3
                    have lV6 := V6.out.lt
                    go_wp2_with fail
                    refine (sync_X y _ DY).mono ?_
                    rintro e W251 ⟨⟨z, ez, rfl, hd, hf, hs⟩, hb⟩
                    replace V5 := Lib.hid (V5.out.below hb V5.out.lt)
                    replace V6 := Lib.hid (V6.out.below hb V6.out.lt)
                    replace DX := Lib.hid (DX.out.below hb)
                    replace DY := Lib.hid (DY.out.below hb)
                    replace BB := Lib.hid (BB.out.trans ((hb).mono BB.out.size))
                    clear hb
                    have DZ := Lib.hid hd
                    have FZ := Lib.hid (show Synced y z ∧ ez = (if stopB y.left y.ws.length then 40 else 0) by
                      rcases hf with ⟨h, _⟩ | ⟨_, h1, h2⟩
                      · rw [QY.out] at h; cases h
                      · exact ⟨h2, h1⟩)
                    have SZ6 := Lib.hid (hs b6 l6 SY6.out)
                    have hee : ez = er := by rw [FZ.out.2, HWX.out.2, pend_stop HPW.out]
                    have AL := Lib.hid (together HWX.out.1 HPW.out FZ.out.1 DX.out DZ.out)
                    clear hd hf hs
                    subst hee
                    clear cV60 cV61 cV62 cV63 lV6
                    have f0 := V6.out.frozen 0; have f1 := V6.out.frozen 1; have f2 := V6.out.frozen 2; have f3 := V6.out.frozen 3
                    obtain ⟨c0, c1, c2, c3, lb⟩ := blk4_facts V6.out
                    have X6 := (((((V6.out).set 0 (.slice z.ps z.ns z.cs)).set 1 (.slice z.pp z.np z.cp)).set 2 (.int .i64 z.left)).set 3 (.bool z.st))
                    have X5 := (((((V5.out).other (b' := b6) 0 (.slice z.ps z.ns z.cs) h56).other (b' := b6) 1 (.slice z.pp z.np z.cp) h56).other (b' := b6) 2 (.int .i64 z.left) h56).other (b' := b6) 3 (.bool z.st) h56)
                    have XX := (((((DX.out).set (o := 0) (v := (.slice z.ps z.ns z.cs)) SX6.out).set (o := 1) (v := (.slice z.pp z.np z.cp)) SX6.out).set (o := 2) (v := (.int .i64 z.left)) SX6.out).set (o := 3) (v := (.bool z.st)) SX6.out)
                    have XZ := (((((DZ.out).set (o := 0) (v := (.slice z.ps z.ns z.cs)) SZ6.out).set (o := 1) (v := (.slice z.pp z.np z.cp)) SZ6.out).set (o := 2) (v := (.int .i64 z.left)) SZ6.out).set (o := 3) (v := (.bool z.st)) SZ6.out)
                    have XB := (((((BB.out).setCell (p := ⟨b6, 0, none⟩) hw6 (.slice z.ps z.ns z.cs)).setCell (p := ⟨b6, 1, none⟩) hw6 (.slice z.pp z.np z.cp)).setCell (p := ⟨b6, 2, none⟩) hw6 (.int .i64 z.left)).setCell (p := ⟨b6, 3, none⟩) hw6 (.bool z.st))
                    go_upto_region 23 with fail
                    generalize ((((W251.setCell ⟨b6, 0, none⟩ (.slice z.ps z.ns z.cs)).setCell ⟨b6, 1, none⟩ (.slice z.pp z.np z.cp)).setCell ⟨b6, 2, none⟩ (.int .i64 z.left)).setCell ⟨b6, 3, none⟩ (.bool z.st)) = W300 at X6 X5 XX XZ XB ⊢
                    clear V5 V6 DX DY DZ BB f0 f1 f2 f3 c0 c1 c2 c3 lb
                    have V6 := Lib.hid (show Blk W300 b6 z.c 25 from X6)
                    have V5 := Lib.hid X5
                    have DX := Lib.hid XX
                    have DZ := Lib.hid XZ
                    have BB := Lib.hid XB
                    clear X6 X5 XX XZ XB
                    have cV50 := V5.out.cell 0
                    have cV51 := V5.out.cell 1
                    have cV52 := V5.out.cell 2
                    have cV53 := V5.out.cell 3
                    have lV5 := V5.out.lt
                    have cV60 := V6.out.cell 0
                    have cV61 := V6.out.cell 1
                    have cV62 := V6.out.cell 2
                    have cV63 := V6.out.cell 3
                    have lV6 := V6.out.lt
                    go_wp2_with fail
                    refine (same_L x z _ DX DZ AL).mono ?_
                    rintro e W252 ⟨rfl, hb⟩
                    replace V5 := Lib.hid (V5.out.below hb V5.out.lt)
                    replace V6 := Lib.hid (V6.out.below hb V6.out.lt)
                    replace DX := Lib.hid (DX.out.below hb)
                    replace DZ := Lib.hid (DZ.out.below hb)
                    replace BB := Lib.hid (BB.out.trans ((hb).mono BB.out.size))
                    clear hb
                    go_wp2_with fail
                    go_ret
                    exact ⟨rfl, BB.out⟩

namespace diskTogether
theorem readable : ∀ t ∈ Try.f8.params.toList, Try.prog.readableRec t = true ∧ t < Try.prog.types.size := by
  rw [Try.params8]
  intro t ht
  simp only [List.mem_cons, List.not_mem_nil, or_false] at ht
  rcases ht with rfl | rfl
  all_goals exact ⟨by kernel_rfl, by decide +kernel⟩

set_option maxRecDepth 100000 in
theorem lifted (os : Os) (started : os.Started) (H : Type) (enc : TypeId × Value → H) :
    ReturnsInHanded {} Try.checked os 8 .any (Rows.diskTogetherSpec.pre6 enc Try.prog Try.f8 Rows.diskTogetherRow.domain false) (Rows.diskTogetherSpec.post enc Try.prog Try.f8 false true false false) := by
  refine returnsInHanded_of_change (C := Try.checked) own_knob started (by kernel_rfl) Try.func8
    (ChangeSpec.witness6 (enc := enc) (C := Try.checked) false ⟨#[], #[.agg #[.slice none 0 0, .slice none 0 0, .int .i64 0, .bool false], .slice none 0 0], []⟩ 8 (by kernel_rfl) (by kernel_rfl) (by kernel_rfl) (by kernel_rfl)) ?_
  intro W base args ds gs before hval0 hW hcnd _
  have hval : ∀ (j : Nat) t v, Try.f8.params[j]? = some t → args[j]? = some v → Value.okWide Try.prog W .any base t v := hval0
  have hW' := hW
  obtain ⟨p, q, hA0, hV, rfl, hfz, hnd⟩ := hW
  have hA : DataW.TrodAll enc Try.prog W 0 (fun _ => true) true Try.f8.params.toList args.toList ds p := hA0
  rw [Try.params8] at hA hval
  obtain ⟨v0, vs0, d0, ds0, p0, q0, hargs, rfl, rfl, h0, r0⟩ := trodAll_cons hA
  obtain ⟨v1, vs1, d1, ds1, p1, q1, rfl, rfl, rfl, h1, r1⟩ := trodAll_cons r0
  obtain ⟨rfl, rfl, rfl⟩ := trodAll_nil r1
  obtain rfl : args = #[v0, v1] := by cases args; simp_all
  obtain ⟨rfl, rfl⟩ := trodVars_none hV
  obtain ⟨k0, rfl, hk0⟩ := open_dk (hval 0 25 v0 rfl rfl) h0
  obtain ⟨k1, n1, c1, z1, rfl, hk1⟩ := open_acts (hval 1 43 v1 rfl rfl) h1
  clear hA0 hval0
  refine (diskTogether_walk k0 k1 n1 c1 z1 W (Lib.hid hk0) (Lib.hid hk1)).mono fun e W' ⟨he, hb⟩ => ?_
  subst he
  exact ⟨_, rfl, law_post laid_out readable rfl rfl Try.underlying4 hW' rfl rfl rfl hb⟩

theorem over : Rows.diskTogetherRow.holds Try.pinned (OpenSpec.ofChange Rows.diskTogetherSpec) :=
  OpenClaim.holds_of_wide 8 Try.f8 rfl rfl rfl rfl rfl rfl rfl ⟨rfl, rfl, rfl, rfl, rfl⟩ rfl rfl rfl rfl rfl (by kernel_rfl) Try.func8 (by kernel_rfl)
    (of_decide_eq_true (by kernel_rfl)) (by unfold Func.isWrapper; first | (rw [if_pos (by decide +kernel)]; kernel_rfl) | (rw [if_neg (by decide +kernel)]; exact ⟨rfl, rfl⟩))
    (fun os started H enc _ => lifted os started H enc)

/-- the statement -/
theorem proved : Rows.DiskTogetherSaid := over
end diskTogether
end Go.Proofs.Ytackklbifppfeaa
