/- The chapter's examples. -/
import Derived.Test.YtackklbifppfeaaDskL2
import Derived.Test.YtackklbifppfeaaRegT
import Derived.Deep.DeepCutAuto
namespace Go.Proofs.Ytackklbifppfeaa
open Go.RowKit
set_option linter.unusedVariables false
set_option linter.unusedSimpArgs false

set_option maxRecDepth 100000 in
theorem run_make129 : ∃ c : Array Value, ∀ w : World, (Instr.makeSlice 35 (.int .i64 129) (.int .i64 129)).run Try.prog w = .ok (.slice (some ⟨w.heap.size, 0, none⟩) 129 129) (w.alloc (.cells c 5)) :=
  ⟨(bv (List.replicate 129 0)).toArray, fun w => by kernel_rfl⟩
theorem sane_pure {d1 d2 d4 : Dk} (h1 : IsFresh 2 d1) (h2 : Wrote d1 1 [7] d2) (h4 : Wrote (d2.stop 1) 0 (dbl 8) d4) :
    stopB d4.left d4.ws.length = true ∧ (synB d4.bs d4.ws d4.left).getD 1 [] = padR [7] ∧ (synB d4.bs d4.ws d4.left).getD 0 [] = tornB (List.replicate 128 0) (dbl 8) ∧ d2.bs.getD 1 [] = List.replicate 128 0 := by
  have hb1 := fresh_bs h1
  have hb2 := wrote_bs h2
  have hb4 : d4.bs = d2.bs := (wrote_bs h4 : d4.bs = (d2.stop 1).bs)
  obtain ⟨_, _, _, r2, w2, m2, b2⟩ := h2
  obtain ⟨_, l4, _, r4, w4, m4, b4⟩ := h4
  have w4' : d4.ws = [⟨((1 : Nat) : Int), r2⟩, ⟨((0 : Nat) : Int), r4⟩] := by
    rw [w4]; show d2.ws ++ _ = _; rw [w2, h1.2.2.1]; rfl
  have l4' : d4.left = 1 := l4
  have hs : stopB d4.left d4.ws.length = true := by rw [w4', l4']; rfl
  have hf : padR (dbl 8) = dbl 8 := padR_full (dbl_len 8)
  have hbb : d2.bs = [List.replicate 128 0, List.replicate 128 0] := by rw [hb2, hb1]; rfl
  have hsy : synB d4.bs d4.ws d4.left = [tornB (List.replicate 128 0) (dbl 8), padR [7]] := by
    unfold synB
    rw [if_pos hs, w4', l4', hb4, hbb]
    obtain ⟨z, hz⟩ : ∃ z, List.replicate 128 (0 : Int) = z := ⟨_, rfl⟩
    rw [hz]
    show [tornB z r4.bs, r2.bs] = _
    rw [b4, b2, hf]
  refine ⟨hs, ?_, ?_, ?_⟩
  · rw [hsy]; rfl
  · rw [hsy]; rfl
  · rw [hbb]; rfl
theorem RdOk.set {w : World} {b off b' o : Nat} {v : Value} {bs : List Int} (h : RdOk w b off bs) (hne : b ≠ b') : RdOk (w.setCell ⟨b', o, none⟩ v) b off bs := ⟨h.1.set hne, by rw [World.size_setCell]; exact h.2⟩
theorem run_field_left (ps : Option Addr) (ns cs : Nat) (pp : Option Addr) (np cp : Nat) (left : Int) (st : Bool) (w : World) : (Instr.field 25 (.agg (dskC ps ns cs pp np cp left st)) 2).run Try.prog w = .ok (.int .i64 left) w := by
  kernel_rfl
theorem seven_rng : ∀ z ∈ [(7 : Int)], 0 ≤ z ∧ z ≤ 255 := by
  intro z hz
  obtain rfl : z = 7 := by simpa using hz
  omega
set_option maxRecDepth 100000 in
set_option maxHeartbeats 4000000 in
theorem sane_any (w : World) : Calls Try.prog 10 #[] w fun e w' => e = .returned (.bool true) ∧ Below w.heap.size w w' := by
  go_enter Try.func10, Try.ntmps10
  have BB := Lib.hid (Below.refl w.heap.size w)
  have R7 := Lib.hid seven_rng
  go_wp2_with fail
  refine (new_no 0 (by omega) _).mono ?_
  rintro e W1 ⟨rfl, hb⟩
  replace BB := Lib.hid (BB.out.trans ((hb).mono BB.out.size))
  clear hb
  have hb := bel_alloc1 W1 (.cells #[.slice none 0 0, .slice none 0 0, .int .i64 0, .bool false] 25)
  replace BB := Lib.hid (BB.out.trans ((hb).mono BB.out.size))
  clear hb
  go_upto_region 2 with fail
  generalize World.alloc W1 _ = W2 at BB ⊢
  go_wp2_with fail
  refine (new_L 2 (by omega) (by omega) _).mono ?_
  rintro e W3 ⟨⟨d1, rfl, hd, hf⟩, hb⟩
  replace BB := Lib.hid (BB.out.trans ((hb).mono BB.out.size))
  clear hb
  have D1 := Lib.hid hd
  have F1 := Lib.hid hf
  clear hd hf
  have Q1 := Lib.hid (fresh_run F1.out (by omega) (by omega))
  have n1 : d1.ns = 2 := D1.out.lens.1.trans F1.out.2.2.2.1
  have HW1 := Lib.hid (show d1.ws.length < 4096 by rw [F1.out.2.2.1]; simp)
  have k1 : 1 < d1.ns := by omega
  have k0 : 0 < d1.ns := by omega
  have N1 := Lib.hid n1
  clear n1
  have hb := bel_alloc1 W3 (.cells d1.c 25)
  replace D1 := Lib.hid (D1.out.below hb)
  replace BB := Lib.hid (BB.out.trans ((hb).mono BB.out.size))
  clear hb
  have V3 := Lib.hid (Blk.new W3 d1.c 25)
  go_upto_region 3 with fail
  generalize World.alloc W3 _ = W4 at BB D1 V3 ⊢
  generalize W3.heap.size = nV3 at V3 ⊢
  have cV30 := V3.out.cell 0
  have cV31 := V3.out.cell 1
  have cV32 := V3.out.cell 2
  have cV33 := V3.out.cell 3
  have lV3 := V3.out.lt
  go_wp2_with fail
  refine (write_L d1 1 (some ⟨W4.heap.size, 0, none⟩) 1 1 [7] _ (Lib.hid (D1.out.below (bel_alloc1 _ _))) Q1 k1 (by omega) HW1 (Lib.hid (.inl (srcV_one _ 7))) R7).mono ?_
  rintro e W5 ⟨⟨d2, rfl, hd, hf, hs⟩, hb⟩
  replace D1 := Lib.hid (D1.out.below (bel_trans (bel_alloc1 _ _) hb))
  replace V3 := Lib.hid (V3.out.below (bel_trans (bel_alloc1 _ _) hb) V3.out.lt)
  replace BB := Lib.hid (BB.out.trans (((bel_trans (bel_alloc1 _ _) hb)).mono BB.out.size))
  clear hb
  have D2 := Lib.hid hd
  have F2 := Lib.hid hf
  clear hd hf hs
  have Q2 := Lib.hid (wrote_run F2.out Q1.out (by have := D1.out.lens; omega) HW1.out)
  have n2 : d2.ns = 2 := by have := D2.out.lens.1; rw [this, F2.out.1]; exact F1.out.2.2.2.1
  have k21 : 1 < d2.ns := by omega
  have k20 : 0 < d2.ns := by omega
  have N2 := Lib.hid n2
  clear n2
  have E2 := Lib.hid (show readB d2 1 = padR [7] by rw [readB_wrote F2.out, if_pos rfl])
  clear cV30 cV31 cV32 cV33 lV3
  have hb := bel_alloc1 W5 (.cells d2.c 25)
  replace D1 := Lib.hid (D1.out.below hb)
  replace V3 := Lib.hid (V3.out.below hb V3.out.lt)
  replace D2 := Lib.hid (D2.out.below hb)
  replace BB := Lib.hid (BB.out.trans ((hb).mono BB.out.size))
  clear hb
  have V5 := Lib.hid (Blk.new W5 d2.c 25)
  go_upto_region 4 with fail
  generalize World.alloc W5 _ = W6 at BB D1 V3 D2 V5 ⊢
  generalize W5.heap.size = nV5 at V5 ⊢
  have cV50 := V5.out.cell 0
  have cV51 := V5.out.cell 1
  have cV52 := V5.out.cell 2
  have cV53 := V5.out.cell 3
  have lV5 := V5.out.lt
  go_wp2_with fail
  refine (read_L d2 1 _ D2 Q2 k21).mono ?_
  rintro e W7 ⟨⟨b1, o1, c1, rfl, h1, h2, h3, h4⟩, hb⟩
  replace D1 := Lib.hid (D1.out.below hb)
  replace V3 := Lib.hid (V3.out.below hb V3.out.lt)
  replace D2 := Lib.hid (D2.out.below hb)
  replace V5 := Lib.hid (V5.out.below hb V5.out.lt)
  replace BB := Lib.hid (BB.out.trans ((hb).mono BB.out.size))
  clear hb
  have RD1 := Lib.hid (show RdOk _ b1 o1 (padR [7]) from ⟨by rw [← E2.out]; exact h1, h3⟩)
  clear h1 h2 h3 h4
  clear cV50 cV51 cV52 cV53 lV5
  have cV30 := V3.out.cell 0
  have cV31 := V3.out.cell 1
  have cV32 := V3.out.cell 2
  have cV33 := V3.out.cell 3
  have lV3 := V3.out.lt
  go_wp2_with fail
  refine (read_no 2 d1.ps d1.ns d1.cs d1.pp d1.np d1.cp d1.left d1.st d1.rs d1.ws _ (Lib.hid D1.out.1) (Lib.hid (by rw [N1.out]; simp))).mono ?_
  rintro e W8 ⟨rfl, hb⟩
  replace D1 := Lib.hid (D1.out.below hb)
  replace V3 := Lib.hid (V3.out.below hb V3.out.lt)
  replace D2 := Lib.hid (D2.out.below hb)
  replace V5 := Lib.hid (V5.out.below hb V5.out.lt)
  replace RD1 := Lib.hid (RD1.out.below hb)
  replace BB := Lib.hid (BB.out.trans ((hb).mono BB.out.size))
  clear hb
  clear cV30 cV31 cV32 cV33 lV3
  go_upto_region 6 with fail
  go_cut [12] (fun s12 wx => s12 = .int .i64 1 ∧ Hid (Blk wx nV5 d2.c 25 ∧ DkOk wx d2 ∧ RdOk wx b1 o1 (padR [7]) ∧ Below w.heap.size w wx))
  case first =>
    refine wp_region_any (by kernel_rfl) ?_
    change wpAny _ _ _ _ _ _ _ (World.drew _)
    generalize hWD : World.drew _ = W
    have VX := Lib.hid (show Blk W nV3 d1.c 25 by rw [← hWD]; exact V3.out)
    have DX := Lib.hid (show DkOk W d1 by rw [← hWD]; exact D1.out.below ((Below.refl _ _).drew))
    have EX := Lib.hid (show Below W8.heap.size W8 W by rw [← hWD]; exact (Below.refl _ _).drew)
    clear hWD
    obtain ⟨z129, MK⟩ := run_make129
    have hCD : ∀ u, Ext W u → Ext W u := fun u hu => hu
    refine region_U (D := Ext W) (Ext W) [8] (Ext.refl W) ?_
    refine anyU_takeD (i := 0) (v := .agg d1.c) 49 rfl rfl (by kernel_rfl) (by kernel_rfl) (by kernel_rfl) (fun _ _ _ h => h) (by kernel_rfl) (Ext.stable _) hCD (yieldsU_val rfl (fun u hu => by have c := (VX.out.below hu VX.out.lt).cell 0; have c1 := (VX.out.below hu VX.out.lt).cell 1; have c2 := (VX.out.below hu VX.out.lt).cell 2; have c3 := (VX.out.below hu VX.out.lt).cell 3; simp at c c1 c2 c3; go_simp)) ?_
    simp only [Act.put, List.setIfInBounds_toArray, List.set_cons_succ, List.set_cons_zero]
    refine anyU_two 1 6 7 _ _ rfl rfl rfl rfl (by kernel_rfl) ?ka6 ?kb6
    case ka6 =>
      intro u hu
      have MK1 := MK u
      go_wp2_with fail
      clear MK1
      change ∃ C' : World → Prop, _ ∧ _ ∧ _ ∧ anyU _ _ _ _ _ _ 7 _ _ _
      have hb1 : Below u.heap.size u (u.alloc (.cells z129 5)) := bel_alloc1 u _
      have E1 := Lib.hid (Ext.trans hu hb1)
      generalize World.alloc u _ = u1 at E1 hb1 ⊢
      clear hb1
      generalize u.heap.size = bb
      clear hu
      refine anchorF (Ext W) hCD (Ext.stable W) E1.out ?_
      (try simp only [Act.put])
      clear E1
      refine anyU_takeD (i := 2) (v := .tuple #[.agg #[.slice none 0 0, .slice none 0 0, .int .i64 0, .bool false], .int .i64 1]) 51 rfl rfl (by kernel_rfl) (by kernel_rfl) (by kernel_rfl) (fun _ _ _ h => h) (by kernel_rfl) (Ext.stable _) hCD (yieldsU_call rfl 19 _ _ rfl #[.agg d1.c, .int .i64 0, .slice (some ⟨bb, 0, none⟩) 129 129] (by simp [Act.eval, Act.put]) (fun u => by go_simp) (fun u hu => write_big 0 (some ⟨bb, 0, none⟩) 129 129 d1.ps d1.ns d1.cs d1.pp d1.np d1.cp d1.left d1.st d1.rs d1.ws u (Lib.hid (DX.out.below hu).1) Q1 k0 (by omega) (by omega))) ?_
      simp only [Act.put, List.setIfInBounds_toArray, List.set_cons_succ, List.set_cons_zero]
      refine anyU_takeD (i := 3) (v := .tuple #[.agg #[.slice none 0 0, .slice none 0 0, .int .i64 0, .bool false], .int .i64 1]) 48 rfl rfl (by kernel_rfl) (by kernel_rfl) (by kernel_rfl) (fun _ _ _ h => h) (by kernel_rfl) (Ext.stable _) hCD (yieldsU_val rfl (fun u hu => by go_simp)) ?_
      refine anyU_takeD (i := 4) (v := .agg #[.slice none 0 0, .slice none 0 0, .int .i64 0, .bool false]) 52 rfl rfl (by kernel_rfl) (by kernel_rfl) (by kernel_rfl) (fun _ _ _ h => h) (by kernel_rfl) (Ext.stable _) hCD (yieldsU_val rfl (fun u hu => by go_simp)) ?_
      refine anyU_takeD (i := 5) (v := .int .i64 1) 53 rfl rfl (by kernel_rfl) (by kernel_rfl) (by kernel_rfl) (fun _ _ _ h => h) (by kernel_rfl) (Ext.stable _) hCD (yieldsU_val rfl (fun u hu => by go_simp)) ?_
      simp only [Act.put, List.setIfInBounds_toArray, List.set_cons_succ, List.set_cons_zero]
      refine anyU_one 6 2 _ rfl rfl (by kernel_rfl) ?_
      intro u hu
      go_wp2_with fail
      change ∃ C' : World → Prop, _ ∧ _ ∧ _ ∧ anyU _ _ _ _ _ _ 2 _ _ _
      have hb1 : Below u.heap.size u (u.alloc (.cells #[.slice none 0 0, .slice none 0 0, .int .i64 0, .bool false] 25)) := bel_alloc1 u _
      have E1 := Lib.hid (Ext.trans hu hb1)
      have Y1 := Lib.hid (show Blk (u.alloc (.cells #[.slice none 0 0, .slice none 0 0, .int .i64 0, .bool false] 25)) u.heap.size #[.slice none 0 0, .slice none 0 0, .int .i64 0, .bool false] 25 from Blk.new u _ _)
      have s1 : W.heap.size ≤ u.heap.size := hu.size
      generalize World.alloc u _ = u1 at E1 Y1 hb1 ⊢
      generalize u.heap.size = b11 at Y1 s1 ⊢
      clear hu hb1
      refine anchorF (fun y => Ext W y ∧ Blk y b11 #[.slice none 0 0, .slice none 0 0, .int .i64 0, .bool false] 25) (fun y hy => hy.1) ((Ext.stable W).and (fun y z h k => h.below k h.lt)) ⟨E1.out, Y1.out⟩ ?_
      (try simp only [Act.put])
      clear E1 Y1
      refine anyU_one 7 1 _ rfl rfl (by kernel_rfl) ?_
      intro u hu
      have x0 := hu.2.cell 0
      have x1 := hu.2.cell 1
      have x2 := hu.2.cell 2
      have x3 := hu.2.cell 3
      have y0 := hu.2.frozen 0
      have y1 := hu.2.frozen 1
      have y2 := hu.2.frozen 2
      have y3 := hu.2.frozen 3
      simp at x0 x1 x2 x3
      go_wp2_with fail
      change ∃ C' : World → Prop, _ ∧ _ ∧ _ ∧ anyU _ _ _ _ _ _ 1 _ _ _
      refine anchorF (Ext W) hCD (Ext.stable W) ?_ ?_
      · (repeat' (first | exact hu.1 | refine Below.setCell ?_ s1 _))
      (try simp only [Act.put])
      refine anyU_tail 8 [] rfl rfl (by decide) (by kernel_rfl) ?_
      intro u2 hu2
      simp only [Act.put, List.filterMap_cons, List.filterMap_nil, List.getElem?_cons_succ, List.getElem?_cons_zero]
      go_wp2_with fail
      go_meet
      have K := EX.out.trans (Below.mono hu2 EX.out.size)
      exact ⟨rfl, Lib.hid ⟨V5.out.below K V5.out.lt, D2.out.below K, RD1.out.below K, BB.out.trans (K.mono BB.out.size)⟩⟩
    case kb6 =>
      intro u hu
      go_wp2_with fail
      change ∃ C' : World → Prop, _ ∧ _ ∧ _ ∧ anyU _ _ _ _ _ _ 7 _ _ _
      have hb1 : Below u.heap.size u (u.alloc (.cells #[.slice none 0 0, .slice none 0 0, .int .i64 0, .bool false] 25)) := bel_alloc1 u _
      have E1 := Lib.hid (Ext.trans hu hb1)
      have Y1 := Lib.hid (show Blk (u.alloc (.cells #[.slice none 0 0, .slice none 0 0, .int .i64 0, .bool false] 25)) u.heap.size #[.slice none 0 0, .slice none 0 0, .int .i64 0, .bool false] 25 from Blk.new u _ _)
      have s1 : W.heap.size ≤ u.heap.size := hu.size
      generalize World.alloc u _ = u1 at E1 Y1 hb1 ⊢
      generalize u.heap.size = b11 at Y1 s1 ⊢
      clear hu hb1
      refine anchorF (fun y => Ext W y ∧ Blk y b11 #[.slice none 0 0, .slice none 0 0, .int .i64 0, .bool false] 25) (fun y hy => hy.1) ((Ext.stable W).and (fun y z h k => h.below k h.lt)) ⟨E1.out, Y1.out⟩ ?_
      (try simp only [Act.put])
      clear E1 Y1
      refine anyU_one 1 6 _ rfl rfl (by kernel_rfl) ?_
      intro u hu
      have MK1 := MK u
      go_wp2_with fail
      clear MK1
      change ∃ C' : World → Prop, _ ∧ _ ∧ _ ∧ anyU _ _ _ _ _ _ 6 _ _ _
      have hb1 : Below u.heap.size u (u.alloc (.cells z129 5)) := bel_alloc1 u _
      have Y2 := Lib.hid (hu.2.below hb1 hu.2.lt)
      have E1 := Lib.hid (Ext.trans hu.1 hb1)
      generalize World.alloc u _ = u1 at E1 Y2 hb1 ⊢
      clear hb1
      generalize u.heap.size = bb
      clear hu
      refine anchorF (fun y => Ext W y ∧ Blk y b11 #[.slice none 0 0, .slice none 0 0, .int .i64 0, .bool false] 25) (fun y hy => hy.1) ((Ext.stable W).and (fun y z h k => h.below k h.lt)) ⟨E1.out, Y2.out⟩ ?_
      (try simp only [Act.put])
      clear E1 Y2
      refine anyU_takeD (i := 2) (v := .tuple #[.agg #[.slice none 0 0, .slice none 0 0, .int .i64 0, .bool false], .int .i64 1]) 51 rfl rfl (by kernel_rfl) (by kernel_rfl) (by kernel_rfl) (fun _ _ _ h => h) (by kernel_rfl) ((Ext.stable W).and (fun y z h k => h.below k h.lt)) (fun y hy => hy.1) (yieldsU_call rfl 19 _ _ rfl #[.agg d1.c, .int .i64 0, .slice (some ⟨bb, 0, none⟩) 129 129] (by simp [Act.eval, Act.put]) (fun u => by go_simp) (fun u hu => write_big 0 (some ⟨bb, 0, none⟩) 129 129 d1.ps d1.ns d1.cs d1.pp d1.np d1.cp d1.left d1.st d1.rs d1.ws u (Lib.hid (DX.out.below hu).1) Q1 k0 (by omega) (by omega))) ?_
      simp only [Act.put, List.setIfInBounds_toArray, List.set_cons_succ, List.set_cons_zero]
      refine anyU_takeD (i := 3) (v := .tuple #[.agg #[.slice none 0 0, .slice none 0 0, .int .i64 0, .bool false], .int .i64 1]) 48 rfl rfl (by kernel_rfl) (by kernel_rfl) (by kernel_rfl) (fun _ _ _ h => h) (by kernel_rfl) ((Ext.stable W).and (fun y z h k => h.below k h.lt)) (fun y hy => hy.1) (yieldsU_val rfl (fun u hu => by go_simp)) ?_
      refine anyU_takeD (i := 4) (v := .agg #[.slice none 0 0, .slice none 0 0, .int .i64 0, .bool false]) 52 rfl rfl (by kernel_rfl) (by kernel_rfl) (by kernel_rfl) (fun _ _ _ h => h) (by kernel_rfl) ((Ext.stable W).and (fun y z h k => h.below k h.lt)) (fun y hy => hy.1) (yieldsU_val rfl (fun u hu => by go_simp)) ?_
      refine anyU_takeD (i := 5) (v := .int .i64 1) 53 rfl rfl (by kernel_rfl) (by kernel_rfl) (by kernel_rfl) (fun _ _ _ h => h) (by kernel_rfl) ((Ext.stable W).and (fun y z h k => h.below k h.lt)) (fun y hy => hy.1) (yieldsU_val rfl (fun u hu => by go_simp)) ?_
      simp only [Act.put, List.setIfInBounds_toArray, List.set_cons_succ, List.set_cons_zero]
      refine anyU_one 7 1 _ rfl rfl (by kernel_rfl) ?_
      intro u hu
      have x0 := hu.2.cell 0
      have x1 := hu.2.cell 1
      have x2 := hu.2.cell 2
      have x3 := hu.2.cell 3
      have y0 := hu.2.frozen 0
      have y1 := hu.2.frozen 1
      have y2 := hu.2.frozen 2
      have y3 := hu.2.frozen 3
      simp at x0 x1 x2 x3
      go_wp2_with fail
      change ∃ C' : World → Prop, _ ∧ _ ∧ _ ∧ anyU _ _ _ _ _ _ 1 _ _ _
      refine anchorF (Ext W) hCD (Ext.stable W) ?_ ?_
      · (repeat' (first | exact hu.1 | refine Below.setCell ?_ s1 _))
      (try simp only [Act.put])
      refine anyU_tail 8 [] rfl rfl (by decide) (by kernel_rfl) ?_
      intro u2 hu2
      simp only [Act.put, List.filterMap_cons, List.filterMap_nil, List.getElem?_cons_succ, List.getElem?_cons_zero]
      go_wp2_with fail
      go_meet
      have K := EX.out.trans (Below.mono hu2 EX.out.size)
      exact ⟨rfl, Lib.hid ⟨V5.out.below K V5.out.lt, D2.out.below K, RD1.out.below K, BB.out.trans (K.mono BB.out.size)⟩⟩
  case rest =>
    obtain ⟨rfl, HC⟩ := hcut
    obtain ⟨G1, G2, G3, G4⟩ := HC.out
    clear V3 V5 D1 D2 RD1 BB HC
    have V5 := Lib.hid G1
    have D2 := Lib.hid G2
    have RD1 := Lib.hid G3
    have BB := Lib.hid G4
    clear G1 G2 G3 G4
    have cV50 := V5.out.cell 0
    have cV51 := V5.out.cell 1
    have cV52 := V5.out.cell 2
    have cV53 := V5.out.cell 3
    have lV5 := V5.out.lt
    go_wp2_with fail
    refine (stop_L d2 1 _ D2 Q2 (by omega)).mono ?_
    rintro e W31 ⟨rfl, hb⟩
    replace V5 := Lib.hid (V5.out.below hb V5.out.lt)
    replace D2 := Lib.hid (D2.out.below hb)
    replace RD1 := Lib.hid (RD1.out.below hb)
    replace BB := Lib.hid (BB.out.trans ((hb).mono BB.out.size))
    clear hb
    have D3 := Lib.hid (D2.out.stop (k := 1) ⟨by omega, by omega⟩)
    have Q3 := Lib.hid (stop_run (k := 1) Q2.out (by omega) (by omega))
    clear cV50 cV51 cV52 cV53 lV5
    have S3 := Lib.hid (show DkSep (d2.stop 1) W31.heap.size from (D3.out.sep (Nat.le_refl _)))
    have hw13 := BB.out.size
    have hb13 := Nat.ne_of_lt RD1.out.2
    have hb := bel_alloc1 W31 (.cells (dskC d2.ps d2.ns d2.cs d2.pp d2.np d2.cp 1 d2.st) 25)
    replace V5 := Lib.hid (V5.out.below hb V5.out.lt)
    replace D2 := Lib.hid (D2.out.below hb)
    replace RD1 := Lib.hid (RD1.out.below hb)
    replace D3 := Lib.hid (D3.out.below hb)
    replace BB := Lib.hid (BB.out.trans ((hb).mono BB.out.size))
    clear hb
    have V13 := Lib.hid (Blk.new W31 (dskC d2.ps d2.ns d2.cs d2.pp d2.np d2.cp 1 d2.st) 25)
    go_upto_region 8 with fail
    generalize World.alloc W31 _ = W32 at BB V5 D2 RD1 D3 V13 ⊢
    generalize W31.heap.size = nV13 at V13 S3 hw13 hb13 ⊢
    have HW3 := Lib.hid (show (d2.stop 1).ws.length < 4096 by obtain ⟨_, _, _, r, h, _⟩ := F2.out; show d2.ws.length < 4096; rw [h, F1.out.2.2.1]; simp)
    have R8 := Lib.hid (dbl_rng (c := 8) (by omega) (by omega))
    have hne : nV5 ≠ nV13 := by
      intro e
      have h1 := V13.out
      have h2 := V5.out.frozen 0
      rw [← e] at h1
      have h3 := h1.cell 2
      have h4 := V5.out.cell 2
      rw [h3] at h4
      simp at h4
      have h5 := F2.out.2.1
      have h6 := F1.out.1
      rw [h5, h6] at h4
      omega
    go_cut [15] (fun s15 wx => ∃ d4, s15 = .int .i64 0 ∧ Hid (Blk wx nV13 d4.c 25 ∧ DkOk wx d4 ∧ Wrote (d2.stop 1) 0 (dbl 8) d4 ∧ Blk wx nV5 d2.c 25 ∧ DkOk wx d2 ∧ RdOk wx b1 o1 (padR [7]) ∧ Below w.heap.size w wx))
    case first =>
      refine wp_region_any (by kernel_rfl) ?_
      change wpAny _ _ _ _ _ _ _ (World.drew _)
      generalize hWD : World.drew _ = W
      have VX := Lib.hid (show Blk W nV13 (dskC d2.ps d2.ns d2.cs d2.pp d2.np d2.cp 1 d2.st) 25 by rw [← hWD]; exact V13.out)
      have V5X := Lib.hid (show Blk W nV5 d2.c 25 by rw [← hWD]; exact V5.out)
      have DX := Lib.hid (show DkOk W (d2.stop 1) by rw [← hWD]; exact D3.out.below ((Below.refl _ _).drew))
      have D2X := Lib.hid (show DkOk W d2 by rw [← hWD]; exact D2.out.below ((Below.refl _ _).drew))
      have RDX := Lib.hid (show RdOk W b1 o1 (padR [7]) by rw [← hWD]; exact RD1.out.below ((Below.refl _ _).drew))
      have EX := Lib.hid (show Below w.heap.size w W by rw [← hWD]; exact BB.out.drew)
      have l13 := VX.out.lt
      clear hWD
      have hCD : ∀ u, Ext W u → Ext W u := fun u hu => hu
      refine region_U (D := Ext W) (Ext W) [6, 7] (Ext.refl W) ?_
      refine anyU_takeD (i := 0) (v := .agg (dskC d2.ps d2.ns d2.cs d2.pp d2.np d2.cp 1 d2.st)) 60 rfl rfl (by kernel_rfl) (by kernel_rfl) (by kernel_rfl) (fun _ _ _ h => h) (by kernel_rfl) (Ext.stable _) hCD (yieldsU_val rfl (fun u hu => by have c := (VX.out.below hu VX.out.lt).cell 0; have c1 := (VX.out.below hu VX.out.lt).cell 1; have c2 := (VX.out.below hu VX.out.lt).cell 2; have c3 := (VX.out.below hu VX.out.lt).cell 3; simp at c c1 c2 c3; go_simp)) ?_
      simp only [Act.put, List.setIfInBounds_toArray, List.set_cons_succ, List.set_cons_zero]
      refine anyU_one 1 6 _ rfl rfl (by kernel_rfl) ?_
      intro u hu
      go_wp2_with fail
      refine (double_any 8 u).mono ?_
      rintro e u1 ⟨rfl, hb1, hk1⟩
      go_wp2_with fail
      change ∃ C' : World → Prop, _ ∧ _ ∧ _ ∧ anyU _ _ _ _ _ _ 6 _ _ _
      have E1 := Lib.hid (Ext.trans hu hb1)
      have Y1 := Lib.hid hk1
      have s1 : W.heap.size ≤ u.heap.size := hu.size
      generalize u.heap.size = bd at Y1 s1 ⊢
      clear hu hb1 hk1
      refine anchorF (fun y => Ext W y ∧ Blk y bd (bv (dbl 8)).toArray 5) (fun y hy => hy.1) ((Ext.stable W).and (fun y z h k => h.below k h.lt)) ⟨E1.out, Y1.out⟩ ?_
      (try simp only [Act.put])
      clear E1 Y1
      refine anyU_one 2 5 _ rfl rfl (by kernel_rfl) ?_
      intro u hu
      have KX := Lib.hid (show SrcW u (some ⟨bd, 0, none⟩) 128 128 (dbl 8) by have := blk_src hu.2; rw [dbl_len] at this; exact this)
      go_wp2_with fail
      refine (write_L (d2.stop 1) 0 (some ⟨bd, 0, none⟩) 128 128 (dbl 8) u (Lib.hid (DX.out.below hu.1)) Q3 k20 (by omega) HW3 KX R8).mono ?_
      rintro e u1 ⟨⟨d4, rfl, hd, hf, hs⟩, hb1⟩
      go_wp2_with fail
      change ∃ C' : World → Prop, _ ∧ _ ∧ _ ∧ anyU _ _ _ _ _ _ 5 _ _ _
      have E1 := Lib.hid (Ext.trans hu.1 hb1)
      have F4 := Lib.hid hf
      have S4 := Lib.hid (hs nV13 (Nat.lt_of_lt_of_le l13 hu.1.size) S3.out)
      refine anchorF (fun y => Ext W y ∧ DkOk y d4) (fun y hy => hy.1) ((Ext.stable W).and (fun y z h k => h.below k)) ⟨E1.out, hd⟩ ?_
      (try simp only [Act.put])
      clear E1 hd hf hs hb1 hu KX
      refine anyU_takeD (i := 3) (v := .tuple #[.agg d4.c, .int .i64 0]) 59 rfl rfl (by kernel_rfl) (by kernel_rfl) (by kernel_rfl) (fun _ _ _ h => h) (by kernel_rfl) ((Ext.stable W).and (fun y z h k => h.below k)) (fun y hy => hy.1) (yieldsU_val rfl (fun u hu => by go_simp)) ?_
      refine anyU_takeD (i := 4) (v := .agg d4.c) 63 rfl rfl (by kernel_rfl) (by kernel_rfl) (by kernel_rfl) (fun _ _ _ h => h) (by kernel_rfl) ((Ext.stable W).and (fun y z h k => h.below k)) (fun y hy => hy.1) (yieldsU_val rfl (fun u hu => by go_simp)) ?_
      simp only [Act.put, List.setIfInBounds_toArray, List.set_cons_succ, List.set_cons_zero]
      refine anyU_twoT 5 6 [5, 7] 2 _ _ rfl rfl rfl rfl (by kernel_rfl) rfl (by decide) (by kernel_rfl) ?kt5 ?kt6
      case kt5 =>
        intro u hu
        go_wp2_with fail
        change ∃ C' : World → Prop, _ ∧ _ ∧ _ ∧ anyU _ _ _ _ _ _ 2 _ _ _
        refine anchorF (fun y => Ext W y ∧ DkOk y d4) (fun y hy => hy.1) ((Ext.stable W).and (fun y z h k => h.below k)) hu ?_
        (try simp only [Act.put])
        clear hu
        refine anyU_tail 6 [7] rfl rfl (by decide) (by kernel_rfl) ?_
        intro u2 hu2
        simp only [Act.put, List.filterMap_cons, List.filterMap_nil, List.getElem?_cons_succ, List.getElem?_cons_zero]
        have XV := (((((VX.out.below hu2.1 VX.out.lt).set 0 (.slice d4.ps d4.ns d4.cs)).set 1 (.slice d4.pp d4.np d4.cp)).set 2 (.int .i64 d4.left)).set 3 (.bool d4.st))
        have XD := (((DkOk.set hu2.2 (o := 0) (v := .slice d4.ps d4.ns d4.cs) S4.out).set (o := 1) (v := .slice d4.pp d4.np d4.cp) S4.out).set (o := 2) (v := .int .i64 d4.left) S4.out).set (o := 3) (v := .bool d4.st) S4.out
        have S2 : DkSep d2 nV13 := S3.out
        have X2 := ((((D2X.out.below hu2.1).set (o := 0) (v := .slice d4.ps d4.ns d4.cs) S2).set (o := 1) (v := .slice d4.pp d4.np d4.cp) S2).set (o := 2) (v := .int .i64 d4.left) S2).set (o := 3) (v := .bool d4.st) S2
        have X5 := (((((V5X.out.below hu2.1 V5X.out.lt).other (b' := nV13) 0 (.slice d4.ps d4.ns d4.cs) hne).other (b' := nV13) 1 (.slice d4.pp d4.np d4.cp) hne).other (b' := nV13) 2 (.int .i64 d4.left) hne).other (b' := nV13) 3 (.bool d4.st) hne)
        have XB := ((((EX.out.trans (Below.mono hu2.1 EX.out.size)).setCell (p := ⟨nV13, 0, none⟩) hw13 (.slice d4.ps d4.ns d4.cs)).setCell (p := ⟨nV13, 1, none⟩) hw13 (.slice d4.pp d4.np d4.cp)).setCell (p := ⟨nV13, 2, none⟩) hw13 (.int .i64 d4.left)).setCell (p := ⟨nV13, 3, none⟩) hw13 (.bool d4.st)
        have XR := RDX.out.below hu2.1
        have XR2 : RdOk ((((u2.setCell ⟨nV13, 0, none⟩ (.slice d4.ps d4.ns d4.cs)).setCell ⟨nV13, 1, none⟩ (.slice d4.pp d4.np d4.cp)).setCell ⟨nV13, 2, none⟩ (.int .i64 d4.left)).setCell ⟨nV13, 3, none⟩ (.bool d4.st)) b1 o1 (padR [7]) := ⟨((((XR.1.set hb13).set hb13).set hb13).set hb13), by simp only [World.size_setCell]; exact XR.2⟩
        have y0 := (VX.out.below hu2.1 VX.out.lt).frozen 0; have y1 := (VX.out.below hu2.1 VX.out.lt).frozen 1; have y2 := (VX.out.below hu2.1 VX.out.lt).frozen 2; have y3 := (VX.out.below hu2.1 VX.out.lt).frozen 3
        have x0 := (VX.out.below hu2.1 VX.out.lt).cell 0; have x1 := (VX.out.below hu2.1 VX.out.lt).cell 1; have x2 := (VX.out.below hu2.1 VX.out.lt).cell 2; have x3 := (VX.out.below hu2.1 VX.out.lt).cell 3
        simp at x0 x1 x2 x3
        go_wp2_with fail
        go_meet
        exact ⟨d4, rfl, Lib.hid ⟨XV, XD, F4.out, X5, X2, XR2, XB⟩⟩
      case kt6 =>
        intro u2 hu2
        simp only [Act.put, List.filterMap_cons, List.filterMap_nil, List.getElem?_cons_succ, List.getElem?_cons_zero]
        have XV := (((((VX.out.below hu2.1 VX.out.lt).set 0 (.slice d4.ps d4.ns d4.cs)).set 1 (.slice d4.pp d4.np d4.cp)).set 2 (.int .i64 d4.left)).set 3 (.bool d4.st))
        have XD := (((DkOk.set hu2.2 (o := 0) (v := .slice d4.ps d4.ns d4.cs) S4.out).set (o := 1) (v := .slice d4.pp d4.np d4.cp) S4.out).set (o := 2) (v := .int .i64 d4.left) S4.out).set (o := 3) (v := .bool d4.st) S4.out
        have S2 : DkSep d2 nV13 := S3.out
        have X2 := ((((D2X.out.below hu2.1).set (o := 0) (v := .slice d4.ps d4.ns d4.cs) S2).set (o := 1) (v := .slice d4.pp d4.np d4.cp) S2).set (o := 2) (v := .int .i64 d4.left) S2).set (o := 3) (v := .bool d4.st) S2
        have X5 := (((((V5X.out.below hu2.1 V5X.out.lt).other (b' := nV13) 0 (.slice d4.ps d4.ns d4.cs) hne).other (b' := nV13) 1 (.slice d4.pp d4.np d4.cp) hne).other (b' := nV13) 2 (.int .i64 d4.left) hne).other (b' := nV13) 3 (.bool d4.st) hne)
        have XB := ((((EX.out.trans (Below.mono hu2.1 EX.out.size)).setCell (p := ⟨nV13, 0, none⟩) hw13 (.slice d4.ps d4.ns d4.cs)).setCell (p := ⟨nV13, 1, none⟩) hw13 (.slice d4.pp d4.np d4.cp)).setCell (p := ⟨nV13, 2, none⟩) hw13 (.int .i64 d4.left)).setCell (p := ⟨nV13, 3, none⟩) hw13 (.bool d4.st)
        have XR := RDX.out.below hu2.1
        have XR2 : RdOk ((((u2.setCell ⟨nV13, 0, none⟩ (.slice d4.ps d4.ns d4.cs)).setCell ⟨nV13, 1, none⟩ (.slice d4.pp d4.np d4.cp)).setCell ⟨nV13, 2, none⟩ (.int .i64 d4.left)).setCell ⟨nV13, 3, none⟩ (.bool d4.st)) b1 o1 (padR [7]) := ⟨((((XR.1.set hb13).set hb13).set hb13).set hb13), by simp only [World.size_setCell]; exact XR.2⟩
        have y0 := (VX.out.below hu2.1 VX.out.lt).frozen 0; have y1 := (VX.out.below hu2.1 VX.out.lt).frozen 1; have y2 := (VX.out.below hu2.1 VX.out.lt).frozen 2; have y3 := (VX.out.below hu2.1 VX.out.lt).frozen 3
        have x0 := (VX.out.below hu2.1 VX.out.lt).cell 0; have x1 := (VX.out.below hu2.1 VX.out.lt).cell 1; have x2 := (VX.out.below hu2.1 VX.out.lt).cell 2; have x3 := (VX.out.below hu2.1 VX.out.lt).cell 3
        simp at x0 x1 x2 x3
        go_wp2_with fail
        go_meet
        exact ⟨d4, rfl, Lib.hid ⟨XV, XD, F4.out, X5, X2, XR2, XB⟩⟩
    case rest =>
      obtain ⟨d4, rfl, HC⟩ := hcut
      obtain ⟨G1, G2, G3, G4, G5, G6, G7⟩ := HC.out
      clear V13 D3 S3 hw13 hb13 V5 D2 RD1 BB HC hne
      have V13 := Lib.hid G1
      have D4 := Lib.hid G2
      have F4 := Lib.hid G3
      have V5 := Lib.hid G4
      have D2 := Lib.hid G5
      have RD1 := Lib.hid G6
      have BB := Lib.hid G7
      clear G1 G2 G3 G4 G5 G6 G7
      have l2 : d2.rs.length = 2 := by rw [F2.out.1]; exact F1.out.2.2.2.1
      have Q4 := Lib.hid (wrote_run F4.out Q3.out (by show 0 < d2.rs.length; omega) HW3.out)
      have HP := Lib.hid (sane_pure F1.out F2.out F4.out)
      have HS4 := Lib.hid (show stopB d4.left d4.ws.length = true from HP.out.1)
      have L2 := Lib.hid l2
      clear l2
      have cV130 := V13.out.cell 0
      have cV131 := V13.out.cell 1
      have cV132 := V13.out.cell 2
      have cV133 := V13.out.cell 3
      have lV13 := V13.out.lt
      go_wp2_with fail
      refine (sync_L40 d4 _ D4 Q4 HS4).mono ?_
      rintro e W61 ⟨⟨d5, rfl, hd, hf, hs⟩, hb⟩
      replace V13 := Lib.hid (V13.out.below hb V13.out.lt)
      replace D4 := Lib.hid (D4.out.below hb)
      replace V5 := Lib.hid (V5.out.below hb V5.out.lt)
      replace D2 := Lib.hid (D2.out.below hb)
      replace RD1 := Lib.hid (RD1.out.below hb)
      replace BB := Lib.hid (BB.out.trans ((hb).mono BB.out.size))
      clear hb
      have D5 := Lib.hid hd
      have F5 := Lib.hid hf
      clear hd hf hs
      have l5 : d5.rs.length = 2 := by rw [F5.out.2.2.2.2.2, F4.out.1]; exact L2.out
      have e5 : d5.st = true := by rw [F5.out.2.2.2.2.1]; exact HS4.out
      have Q6 := Lib.hid (re_run (synced_ok F5.out Q4.out))
      have Q7 := Lib.hid (re_run (run_ok Q2.out))
      have n5 : d5.re.ns = 2 := by have := D5.out.lens.1; show d5.ns = 2; rw [this]; exact l5
      have k50 : 0 < d5.re.ns := by omega
      have k51 : 1 < d5.re.ns := by omega
      have k71 : 1 < d2.re.ns := k21
      have E6 := Lib.hid (show readB d5.re 1 = padR [7] by rw [readB_re 1 (by omega), F5.out.2.1]; exact HP.out.2.1)
      have E7 := Lib.hid (show readB d5.re 0 = tornB (List.replicate 128 0) (dbl 8) by rw [readB_re 0 (by omega), F5.out.2.1]; exact HP.out.2.2.1)
      have E8 := Lib.hid (show readB d2.re 1 = List.replicate 128 0 by rw [readB_re 1 (by have := L2.out; omega)]; exact HP.out.2.2.2)
      have HE5 := Lib.hid e5
      clear l5 e5 n5
      clear cV130 cV131 cV132 cV133 lV13
      have S5 := Lib.hid (show DkSep d5 W61.heap.size from D5.out.sep (Nat.le_refl _))
      have S2 := Lib.hid (show DkSep d2 W61.heap.size from D2.out.sep (Nat.le_refl _))
      have hb16 := Nat.ne_of_lt RD1.out.2
      have hv16 := Nat.ne_of_lt V5.out.lt
      have hw16 := BB.out.size
      have hb := bel_alloc1 W61 (.cells d5.c 25)
      replace V13 := Lib.hid (V13.out.below hb V13.out.lt)
      replace D4 := Lib.hid (D4.out.below hb)
      replace V5 := Lib.hid (V5.out.below hb V5.out.lt)
      replace D2 := Lib.hid (D2.out.below hb)
      replace RD1 := Lib.hid (RD1.out.below hb)
      replace D5 := Lib.hid (D5.out.below hb)
      replace BB := Lib.hid (BB.out.trans ((hb).mono BB.out.size))
      clear hb
      have V16 := Lib.hid (Blk.new W61 d5.c 25)
      go_upto_region 10 with fail
      generalize World.alloc W61 _ = W62 at BB V13 D4 V5 D2 RD1 D5 V16 ⊢
      generalize W61.heap.size = nV16 at V16 S5 S2 hb16 hv16 hw16 ⊢
      have cV160 := V16.out.cell 0
      have cV161 := V16.out.cell 1
      have cV162 := V16.out.cell 2
      have lV16 := V16.out.lt
      have cV163 : W62.cell? ⟨nV16, 3, none⟩ = some (.bool true) := by rw [V16.out.cell 3]; show some (Value.bool d5.st) = _; rw [HE5.out]
      have lV16 := V16.out.lt
      go_wp2_with fail
      refine (restart_any d5.ps d5.ns d5.cs d5.pp d5.np d5.cp d5.left true d5.rs d5.ws _ (Lib.hid D5.out.1)).mono ?_
      rintro e W63 ⟨rfl, hb⟩
      replace V13 := Lib.hid (V13.out.below hb V13.out.lt)
      replace D4 := Lib.hid (D4.out.below hb)
      replace V5 := Lib.hid (V5.out.below hb V5.out.lt)
      replace D2 := Lib.hid (D2.out.below hb)
      replace RD1 := Lib.hid (RD1.out.below hb)
      replace D5 := Lib.hid (D5.out.below hb)
      replace V16 := Lib.hid (V16.out.below hb V16.out.lt)
      replace BB := Lib.hid (BB.out.trans ((hb).mono BB.out.size))
      clear hb
      clear cV160 cV161 cV162 cV163 lV16
      have f0 := V16.out.frozen 0
      have f1 := V16.out.frozen 1
      have f2 := V16.out.frozen 2
      have f3 := V16.out.frozen 3
      have cV160 := V16.out.cell 0
      have cV161 := V16.out.cell 1
      have cV162 := V16.out.cell 2
      have cV163 := V16.out.cell 3
      have lV16 := V16.out.lt
      go_upto_region 13 with fail
      have XV := ((((V16.out.set 0 (.slice d5.ps d5.ns d5.cs)).set 1 (.slice none 0 0)).set 2 (.int .i64 (-1))).set 3 (.bool false))
      have XD := ((((D5.out.re.set (o := 0) (v := (.slice d5.ps d5.ns d5.cs)) S5.out.re).set (o := 1) (v := (.slice none 0 0)) S5.out.re).set (o := 2) (v := (.int .i64 (-1))) S5.out.re).set (o := 3) (v := (.bool false)) S5.out.re)
      have XD2 := ((((D2.out.set (o := 0) (v := (.slice d5.ps d5.ns d5.cs)) S2.out).set (o := 1) (v := (.slice none 0 0)) S2.out).set (o := 2) (v := (.int .i64 (-1))) S2.out).set (o := 3) (v := (.bool false)) S2.out)
      have X5 := ((((V5.out.other (b' := nV16) 0 (.slice d5.ps d5.ns d5.cs) hv16).other (b' := nV16) 1 (.slice none 0 0) hv16).other (b' := nV16) 2 (.int .i64 (-1)) hv16).other (b' := nV16) 3 (.bool false) hv16)
      have XB := ((((BB.out.setCell (p := ⟨nV16, 0, none⟩) hw16 (.slice d5.ps d5.ns d5.cs)).setCell (p := ⟨nV16, 1, none⟩) hw16 (.slice none 0 0)).setCell (p := ⟨nV16, 2, none⟩) hw16 (.int .i64 (-1))).setCell (p := ⟨nV16, 3, none⟩) hw16 (.bool false))
      have XR := ((((RD1.out.set (o := 0) (v := (.slice d5.ps d5.ns d5.cs)) hb16).set (o := 1) (v := (.slice none 0 0)) hb16).set (o := 2) (v := (.int .i64 (-1))) hb16).set (o := 3) (v := (.bool false)) hb16)
      generalize ((((W63.setCell ⟨nV16, 0, none⟩ (.slice d5.ps d5.ns d5.cs)).setCell ⟨nV16, 1, none⟩ (.slice none 0 0)).setCell ⟨nV16, 2, none⟩ (.int .i64 (-1))).setCell ⟨nV16, 3, none⟩ (.bool false)) = W90 at XV XD XD2 X5 XB XR ⊢
      clear V16 D5 D2 V5 BB RD1 V13 D4 cV160 cV161 cV162 cV163 lV16 f0 f1 f2 f3
      have V16 := Lib.hid (show Blk W90 nV16 d5.re.c 25 from XV)
      have D6 := Lib.hid XD
      have D2 := Lib.hid XD2
      have V5 := Lib.hid X5
      have BB := Lib.hid XB
      have RD1 := Lib.hid XR
      clear XV XD XD2 X5 XB XR
      have cV160 : W90.cell? ⟨nV16, 0, none⟩ = some (.slice d5.ps d5.ns d5.cs) := V16.out.cell 0
      have cV161 : W90.cell? ⟨nV16, 1, none⟩ = some (.slice none 0 0) := V16.out.cell 1
      have cV162 : W90.cell? ⟨nV16, 2, none⟩ = some (.int .i64 (-1)) := V16.out.cell 2
      have cV163 : W90.cell? ⟨nV16, 3, none⟩ = some (.bool false) := V16.out.cell 3
      have lV16 := V16.out.lt
      go_wp2_with fail
      refine (read_L d5.re 1 _ D6 Q6 k51).mono ?_
      rintro e W91 ⟨⟨b2, o2, c2, rfl, h1, h2, h3, h4⟩, hb⟩
      replace V16 := Lib.hid (V16.out.below hb V16.out.lt)
      replace D6 := Lib.hid (D6.out.below hb)
      replace D2 := Lib.hid (D2.out.below hb)
      replace V5 := Lib.hid (V5.out.below hb V5.out.lt)
      replace RD1 := Lib.hid (RD1.out.below hb)
      replace BB := Lib.hid (BB.out.trans ((hb).mono BB.out.size))
      clear hb
      have RD2 := Lib.hid (show RdOk _ b2 o2 (padR [7]) from ⟨by rw [← E6.out]; exact h1, h3⟩)
      clear h1 h2 h3 h4
      clear cV160 cV161 cV162 cV163 lV16
      have cV160 : W91.cell? ⟨nV16, 0, none⟩ = some (.slice d5.ps d5.ns d5.cs) := V16.out.cell 0
      have cV161 : W91.cell? ⟨nV16, 1, none⟩ = some (.slice none 0 0) := V16.out.cell 1
      have cV162 : W91.cell? ⟨nV16, 2, none⟩ = some (.int .i64 (-1)) := V16.out.cell 2
      have cV163 : W91.cell? ⟨nV16, 3, none⟩ = some (.bool false) := V16.out.cell 3
      have lV16 := V16.out.lt
      go_wp2_with fail
      refine (read_L d5.re 0 _ D6 Q6 k50).mono ?_
      rintro e W92 ⟨⟨b3, o3, c3, rfl, h1, h2, h3, h4⟩, hb⟩
      replace V16 := Lib.hid (V16.out.below hb V16.out.lt)
      replace D6 := Lib.hid (D6.out.below hb)
      replace D2 := Lib.hid (D2.out.below hb)
      replace V5 := Lib.hid (V5.out.below hb V5.out.lt)
      replace RD1 := Lib.hid (RD1.out.below hb)
      replace RD2 := Lib.hid (RD2.out.below hb)
      replace BB := Lib.hid (BB.out.trans ((hb).mono BB.out.size))
      clear hb
      have RD3 := Lib.hid (show RdOk _ b3 o3 (tornB (List.replicate 128 0) (dbl 8)) from ⟨by rw [← E7.out]; exact h1, h3⟩)
      clear h1 h2 h3 h4
      clear cV160 cV161 cV162 cV163 lV16
      have cV50 := V5.out.cell 0
      have cV51 := V5.out.cell 1
      have cV52 := V5.out.cell 2
      have cV53 := V5.out.cell 3
      have lV5 := V5.out.lt
      go_wp2_with fail
      refine (restart_L d2 _ D2).mono ?_
      rintro e W93 ⟨rfl, hb⟩
      replace V16 := Lib.hid (V16.out.below hb V16.out.lt)
      replace D6 := Lib.hid (D6.out.below hb)
      replace D2 := Lib.hid (D2.out.below hb)
      replace V5 := Lib.hid (V5.out.below hb V5.out.lt)
      replace RD1 := Lib.hid (RD1.out.below hb)
      replace RD2 := Lib.hid (RD2.out.below hb)
      replace RD3 := Lib.hid (RD3.out.below hb)
      replace BB := Lib.hid (BB.out.trans ((hb).mono BB.out.size))
      clear hb
      clear cV50 cV51 cV52 cV53 lV5
      go_wp2_with fail
      refine (read_L d2.re 1 _ (Lib.hid D2.out.re) Q7 k71).mono ?_
      rintro e W94 ⟨⟨b4, o4, c4, rfl, h1, h2, h3, h4⟩, hb⟩
      replace V16 := Lib.hid (V16.out.below hb V16.out.lt)
      replace D6 := Lib.hid (D6.out.below hb)
      replace D2 := Lib.hid (D2.out.below hb)
      replace V5 := Lib.hid (V5.out.below hb V5.out.lt)
      replace RD1 := Lib.hid (RD1.out.below hb)
      replace RD2 := Lib.hid (RD2.out.below hb)
      replace RD3 := Lib.hid (RD3.out.below hb)
      replace BB := Lib.hid (BB.out.trans ((hb).mono BB.out.size))
      clear hb
      have RD4 := Lib.hid (show RdOk _ b4 o4 (List.replicate 128 0) from ⟨by rw [← E8.out]; exact h1, h3⟩)
      clear h1 h2 h3 h4
      have hp7 : (padR [7]).getD 0 0 = 7 := by rw [padR_get0 (by simp)]; rfl
      have x1 : W94.cell? ⟨b1, o1, none⟩ = some (.int .u8 7) := by have := RD1.out.at 0 (by rw [padR_len (by simp)]; omega); rwa [hp7] at this
      have x2 : W94.cell? ⟨b2, o2, none⟩ = some (.int .u8 7) := by have := RD2.out.at 0 (by rw [padR_len (by simp)]; omega); rwa [hp7] at this
      have lT : (tornB (List.replicate 128 0) (dbl 8)).length = 128 := by unfold tornB; rw [List.length_append, List.length_take, List.length_drop, dbl_len, List.length_replicate]; rfl
      have x3 : W94.cell? ⟨b3, o3, none⟩ = some (.int .u8 8) := by
        have := RD3.out.at 0 (by rw [lT]; omega)
        rwa [tornB_at (dbl_len 8) (by simp) 0 (by omega), if_pos (by omega), dbl_get 8 0 (by omega), if_pos (by simp)] at this
      have x4 : W94.cell? ⟨b3, o3 + 64, none⟩ = some (.int .u8 0) := by
        have := RD3.out.at 64 (by rw [lT]; omega)
        rwa [tornB_at (dbl_len 8) (by simp) 64 (by omega), if_neg (by omega), zeros_at] at this
      have x5 : W94.cell? ⟨b4, o4, none⟩ = some (.int .u8 0) := by
        have := RD4.out.at 0 (by simp)
        rwa [zeros_at] at this
      clear hp7 lT
      have hz0 : ∀ u, DskV u none 0 none 0 0 [] [] := fun u => ⟨⟨rfl, by omega, by simp, .inl rfl⟩, ⟨rfl, by omega, by simp, .inl rfl⟩, by omega, by omega⟩
      have hE : chkE 0 [] [] = 40 := by rfl
      go_wp2_with fail
      refine (check_any none 0 0 none 0 0 0 false [] [] _ (Lib.hid (hz0 _))).mono ?_
      rintro e W95 ⟨rfl, hb⟩
      replace V16 := Lib.hid (V16.out.below hb V16.out.lt)
      replace D6 := Lib.hid (D6.out.below hb)
      replace D2 := Lib.hid (D2.out.below hb)
      replace V5 := Lib.hid (V5.out.below hb V5.out.lt)
      replace RD1 := Lib.hid (RD1.out.below hb)
      replace RD2 := Lib.hid (RD2.out.below hb)
      replace RD3 := Lib.hid (RD3.out.below hb)
      replace RD4 := Lib.hid (RD4.out.below hb)
      replace BB := Lib.hid (BB.out.trans ((hb).mono BB.out.size))
      clear hb
      rw [hE]
      go_wp2_with fail
      refine (restart_any none 0 0 none 0 0 0 false [] [] _ (Lib.hid (hz0 _))).mono ?_
      rintro e W96 ⟨rfl, hb⟩
      replace V16 := Lib.hid (V16.out.below hb V16.out.lt)
      replace D6 := Lib.hid (D6.out.below hb)
      replace D2 := Lib.hid (D2.out.below hb)
      replace V5 := Lib.hid (V5.out.below hb V5.out.lt)
      replace RD1 := Lib.hid (RD1.out.below hb)
      replace RD2 := Lib.hid (RD2.out.below hb)
      replace RD3 := Lib.hid (RD3.out.below hb)
      replace RD4 := Lib.hid (RD4.out.below hb)
      replace BB := Lib.hid (BB.out.trans ((hb).mono BB.out.size))
      clear hb
      have FL := run_field_left none 0 0 none 0 0 (-1) false W96
      go_wp2_with fail
      go_ret
      exact ⟨rfl, BB.out⟩
end Go.Proofs.Ytackklbifppfeaa
