/- The reference of layer 10: Again. -/
import Derived.Test.YtbmeljkdemdloaaElgRefC
namespace Go.Proofs.Ytbmeljkdemdloaa
open Go.ChangeShapes Go.WideShapes Go.ChangeAt Go.RowKit Go.Shelf
set_option linter.unusedVariables false

set_option maxRecDepth 100000 in
set_option maxHeartbeats 4000000 in
theorem ragain_go (key a0 b0 a1 b1 a2 b2 r0 r1 r2 x0 x1 x2 x3 x4 x5 : Int) (w : World) (h0 : Hid (mulZ a0 (powZ 4 r0) = x0)) (h1 : Hid (mulZ b0 (powZ key r0) = x1)) (h2 : Hid (mulZ a1 (powZ 4 r1) = x2)) (h3 : Hid (mulZ b1 (powZ key r1) = x3)) (h4 : Hid (mulZ a2 (powZ 4 r2) = x4)) (h5 : Hid (mulZ b2 (powZ key r2) = x5))
    (L : Let) (E : Int) (j1 : Hid (elB key = false → L = zeroL ∧ E = 90)) (j2 : Hid (elB key = true → chkE a0 b0 a1 b1 a2 b2 = 100 → L = zeroL ∧ E = 100)) (j3 : Hid (elB key = true → chkE a0 b0 a1 b1 a2 b2 = 0 → L = ((x0, x1), (x2, x3), (x4, x5)) ∧ E = 0)) :
    Calls Try.prog 18 #[.int .i64 key, sealedV a0 b0 a1 b1 a2 b2, .agg #[.int .i64 r0, .int .i64 r1, .int .i64 r2]] w fun e w' => e = .returned (.tuple #[letV L, .int .i64 E]) ∧ Below w.heap.size w w' := by
  cases hk : elB key with
  | false =>
    have HK := Lib.hid hk
    obtain ⟨rfl, rfl⟩ := j1.out hk
    clear hk
    go_enter Try.func18, Try.ntmps18
    go_wp2_with fail
    refine (rvalid_any _ _).mono ?_; rintro e w' ⟨rfl, rfl⟩; rw [HK.out]
    go_wp2_with fail
    refine bodyPost_ret (v := .tuple #[letV zeroL, .int .i64 90]) (by simp [results, Try.f18, go_sem, zeroL]) rfl ⟨rfl, ?_⟩
    exact ((bel_alloc1 _ _).alloc (by simp) _).alloc (by simp; omega) _
  | true =>
  have HK := Lib.hid hk; clear hk
  go_enter Try.func18, Try.ntmps18
  go_wp2_with fail
  refine (rvalid_any _ _).mono ?_; rintro e w' ⟨rfl, rfl⟩; rw [HK.out]
  go_wp2_with fail
  refine (rcheck_any _ _ _ _ _ _ _).mono ?_; rintro e V ⟨rfl, hb⟩
  have VB : Hid (Below w.heap.size w V) := Lib.hid ((((bel_alloc1 _ _).alloc (by simp) _).alloc (by simp; omega) _).trans (hb.mono (by simp; omega)))
  have V0 : Hid (Blk V w.heap.size #[.int .i64 a0, .int .i64 b0, .int .i64 a1, .int .i64 b1, .int .i64 a2, .int .i64 b2] 34) := Lib.hid ((((Blk.new w _ _).alloc _).alloc _).below hb (by simp; omega))
  have V1 : Hid (Blk V (w.heap.size + 1) #[.int .i64 r0, .int .i64 r1, .int .i64 r2] 29) := by
    refine Lib.hid (Blk.below ?_ hb (by first | (simp; done) | (simp; omega)))
    have h := Blk.new (w.alloc (.cells #[.int .i64 a0, .int .i64 b0, .int .i64 a1, .int .i64 b1, .int .i64 a2, .int .i64 b2] 34)) #[.int .i64 r0, .int .i64 r1, .int .i64 r2] 29
    rw [World.size_alloc] at h; exact h.alloc _
  have V2 : Hid (Blk V (w.heap.size + 1 + 1) #[.int .i64 0, .int .i64 0, .int .i64 0, .int .i64 0, .int .i64 0, .int .i64 0] 34) := by
    refine Lib.hid (Blk.below ?_ hb (by simp))
    have h := Blk.new ((w.alloc (.cells #[.int .i64 a0, .int .i64 b0, .int .i64 a1, .int .i64 b1, .int .i64 a2, .int .i64 b2] 34)).alloc (.cells #[.int .i64 r0, .int .i64 r1, .int .i64 r2] 29)) #[.int .i64 0, .int .i64 0, .int .i64 0, .int .i64 0, .int .i64 0, .int .i64 0] 34
    rw [World.size_alloc, World.size_alloc] at h; exact h
  clear hb
  rcases chkE_or a0 b0 a1 b1 a2 b2 with hc | hc
  case inr =>
    obtain ⟨rfl, rfl⟩ := j2.out HK.out hc
    rw [hc]
    clear hc
    obtain ⟨e0, e1, e2, e3, e4, e5, g0, g1, g2, g3, g4, g5⟩ := blk6_facts V2.out
    go_wp2_with fail
    clear e0 e1 e2 e3 e4 e5
    have hJ := six_stored V2.out (.int .i64 0) (.int .i64 0) (.int .i64 0) (.int .i64 0) (.int .i64 0) (.int .i64 0)
    have hBw := six_below (b := w.heap.size + 1 + 1) VB.out (by omega) (.int .i64 0) (.int .i64 0) (.int .i64 0) (.int .i64 0) (.int .i64 0) (.int .i64 0)
    generalize ((((((V.setCell ⟨w.heap.size + 1 + 1, 0, none⟩ (.int .i64 0)).setCell ⟨w.heap.size + 1 + 1, 1, none⟩ (.int .i64 0)).setCell ⟨w.heap.size + 1 + 1, 2, none⟩ (.int .i64 0)).setCell ⟨w.heap.size + 1 + 1, 3, none⟩ (.int .i64 0)).setCell ⟨w.heap.size + 1 + 1, 4, none⟩ (.int .i64 0)).setCell ⟨w.heap.size + 1 + 1, 5, none⟩ (.int .i64 0)) = W2 at hJ hBw ⊢
    obtain ⟨e0, e1, e2, e3, e4, e5⟩ := res6_ret hJ
    refine bodyPost_ret (v := .tuple #[letV ((0, 0), (0, 0), (0, 0)), .int .i64 100]) (by simp [results, Try.f18, go_sem, e0, e1, e2, e3, e4, e5]) rfl ⟨rfl, hBw⟩
  obtain ⟨rfl, rfl⟩ := j3.out HK.out hc
  obtain ⟨q0, q1, q2, q3, q4, q5⟩ := chk_six (show chkB a0 b0 a1 b1 a2 b2 = true from okL_of (l := ((a0, b0), (a1, b1), (a2, b2))) hc)
  have Q0 := Lib.hid q0; have Q1 := Lib.hid q1; have Q2 := Lib.hid q2; have Q3 := Lib.hid q3; have Q4 := Lib.hid q4; have Q5 := Lib.hid q5
  rw [hc]
  clear hc q0 q1 q2 q3 q4 q5
  have V0' : Hid (Blk V w.heap.size (upG 0 x0 x1 x2 x3 x4 x5 a0 b0 a1 b1 a2 b2) 34) := by rw [upG_0]; exact V0
  go_wp2_with fail
  go_loopw [8] (fun i wr => ∃ k : Nat, k ≤ 3 ∧ i = .int .i64 k ∧ Hid (Below w.heap.size w wr) ∧ Hid (Blk wr w.heap.size (upG k x0 x1 x2 x3 x4 x5 a0 b0 a1 b1 a2 b2) 34) ∧ Hid (Blk wr (w.heap.size + 1) #[.int .i64 r0, .int .i64 r1, .int .i64 r2] 29) ∧ Hid (Blk wr (w.heap.size + 1 + 1) #[.int .i64 0, .int .i64 0, .int .i64 0, .int .i64 0, .int .i64 0, .int .i64 0] 34)) (fun i _ => 3 - (intOf i).toNat)
  case atStart => exact ⟨0, by omega, rfl, VB, V0', V1, V2⟩
  case round =>
    obtain ⟨k, hk, rfl, HB, R0, R1, R2⟩ := hrel
    obtain rfl | rfl | rfl | rfl : k = 0 ∨ k = 1 ∨ k = 2 ∨ k = 3 := by omega
    · obtain ⟨d0, d1, d2⟩ := blk3_facts R1.out
      have e0 := R0.out.cell 0; have e1 := R0.out.cell 1
      have g0 := R0.out.frozen 0; have g1 := R0.out.frozen 1
      simp [upG] at e0 e1
      obtain ⟨y, hy⟩ : ∃ y, powZ 4 r0 = y := ⟨_, rfl⟩
      have q0 : elB y = true := by rw [← hy]; exact powZ_el elB_4 _
      obtain ⟨z, hz⟩ : ∃ z, powZ key r0 = z := ⟨_, rfl⟩
      have q3 : elB z = true := by rw [← hz]; exact powZ_el HK.out _
      have hm := h0.out; have hm' := h1.out
      rw [hy] at hm; rw [hz] at hm'
      have QY := Lib.hid q0; have QZ := Lib.hid q3; have HM := Lib.hid hm; have HM' := Lib.hid hm'; have HY := Lib.hid hy; have HZ := Lib.hid hz
      clear q0 q3 hm hm' hy hz
      go_wp2_with fail
      refine wp_region_still_tail 22 (by kernel_rfl) (by kernel_rfl) ?_
      change wpStill _ _ wr.drew _ _ _
      simp only [List.take_succ_cons, List.take_zero, List.drop_succ_cons, List.drop_zero]
      iterate 8 still_step
      still_call ((rpow10_c 4 r0 y _ HY.out).mono fun e w' h => ⟨h.1, h.2.symm⟩)
      still_call ((rtimes_c a0 y x0 _ Q0.out QY.out HM.out).mono fun e w' h => ⟨h.1, h.2.symm⟩)
      iterate 8 still_step
      still_call ((rpow10_c key r0 z _ HZ.out).mono fun e w' h => ⟨h.1, h.2.symm⟩)
      still_call ((rtimes_c b0 z x1 _ Q1.out QZ.out HM'.out).mono fun e w' h => ⟨h.1, h.2.symm⟩)
      iterate 2 still_step
      refine wpStill_nil ?_
      change wpList _ _ _ _ _ wr.drew
      go_wp2_with fail
      go_roundw
      case rel =>
        refine ⟨0 + 1, by omega, rfl, ?_, ?_, ?_, ?_⟩
        · exact Lib.hid (((HB.out.setCell (p := ⟨w.heap.size, 0, none⟩) (by simp) _).setCell (p := ⟨w.heap.size, 1, none⟩) (by simp) _).drew)
        · have h := (R0.out.set 0 (.int .i64 x0)).set 1 (.int .i64 x1)
          rw [upG_set0] at h; exact Lib.hid h
        · exact Lib.hid ((R1.out.other (b' := w.heap.size) 0 (.int .i64 x0) (by omega)).other (b' := w.heap.size) 1 (.int .i64 x1) (by omega))
        · exact Lib.hid ((R2.out.other (b' := w.heap.size) 0 (.int .i64 x0) (by omega)).other (b' := w.heap.size) 1 (.int .i64 x1) (by omega))
      case measure => simp [intOf]
    · obtain ⟨d0, d1, d2⟩ := blk3_facts R1.out
      have e0 := R0.out.cell 2; have e1 := R0.out.cell 3
      have g0 := R0.out.frozen 2; have g1 := R0.out.frozen 3
      simp [upG] at e0 e1
      obtain ⟨y, hy⟩ : ∃ y, powZ 4 r1 = y := ⟨_, rfl⟩
      have q0 : elB y = true := by rw [← hy]; exact powZ_el elB_4 _
      obtain ⟨z, hz⟩ : ∃ z, powZ key r1 = z := ⟨_, rfl⟩
      have q3 : elB z = true := by rw [← hz]; exact powZ_el HK.out _
      have hm := h2.out; have hm' := h3.out
      rw [hy] at hm; rw [hz] at hm'
      have QY := Lib.hid q0; have QZ := Lib.hid q3; have HM := Lib.hid hm; have HM' := Lib.hid hm'; have HY := Lib.hid hy; have HZ := Lib.hid hz
      clear q0 q3 hm hm' hy hz
      go_wp2_with fail
      refine wp_region_still_tail 22 (by kernel_rfl) (by kernel_rfl) ?_
      change wpStill _ _ wr.drew _ _ _
      simp only [List.take_succ_cons, List.take_zero, List.drop_succ_cons, List.drop_zero]
      iterate 8 still_step
      still_call ((rpow10_c 4 r1 y _ HY.out).mono fun e w' h => ⟨h.1, h.2.symm⟩)
      still_call ((rtimes_c a1 y x2 _ Q2.out QY.out HM.out).mono fun e w' h => ⟨h.1, h.2.symm⟩)
      iterate 8 still_step
      still_call ((rpow10_c key r1 z _ HZ.out).mono fun e w' h => ⟨h.1, h.2.symm⟩)
      still_call ((rtimes_c b1 z x3 _ Q3.out QZ.out HM'.out).mono fun e w' h => ⟨h.1, h.2.symm⟩)
      iterate 2 still_step
      refine wpStill_nil ?_
      change wpList _ _ _ _ _ wr.drew
      go_wp2_with fail
      go_roundw
      case rel =>
        refine ⟨1 + 1, by omega, rfl, ?_, ?_, ?_, ?_⟩
        · exact Lib.hid (((HB.out.setCell (p := ⟨w.heap.size, 2, none⟩) (by simp) _).setCell (p := ⟨w.heap.size, 3, none⟩) (by simp) _).drew)
        · have h := (R0.out.set 2 (.int .i64 x2)).set 3 (.int .i64 x3)
          rw [upG_set1] at h; exact Lib.hid h
        · exact Lib.hid ((R1.out.other (b' := w.heap.size) 2 (.int .i64 x2) (by omega)).other (b' := w.heap.size) 3 (.int .i64 x3) (by omega))
        · exact Lib.hid ((R2.out.other (b' := w.heap.size) 2 (.int .i64 x2) (by omega)).other (b' := w.heap.size) 3 (.int .i64 x3) (by omega))
      case measure => simp [intOf]
    · obtain ⟨d0, d1, d2⟩ := blk3_facts R1.out
      have e0 := R0.out.cell 4; have e1 := R0.out.cell 5
      have g0 := R0.out.frozen 4; have g1 := R0.out.frozen 5
      simp [upG] at e0 e1
      obtain ⟨y, hy⟩ : ∃ y, powZ 4 r2 = y := ⟨_, rfl⟩
      have q0 : elB y = true := by rw [← hy]; exact powZ_el elB_4 _
      obtain ⟨z, hz⟩ : ∃ z, powZ key r2 = z := ⟨_, rfl⟩
      have q3 : elB z = true := by rw [← hz]; exact powZ_el HK.out _
      have hm := h4.out; have hm' := h5.out
      rw [hy] at hm; rw [hz] at hm'
      have QY := Lib.hid q0; have QZ := Lib.hid q3; have HM := Lib.hid hm; have HM' := Lib.hid hm'; have HY := Lib.hid hy; have HZ := Lib.hid hz
      clear q0 q3 hm hm' hy hz
      go_wp2_with fail
      refine wp_region_still_tail 22 (by kernel_rfl) (by kernel_rfl) ?_
      change wpStill _ _ wr.drew _ _ _
      simp only [List.take_succ_cons, List.take_zero, List.drop_succ_cons, List.drop_zero]
      iterate 8 still_step
      still_call ((rpow10_c 4 r2 y _ HY.out).mono fun e w' h => ⟨h.1, h.2.symm⟩)
      still_call ((rtimes_c a2 y x4 _ Q4.out QY.out HM.out).mono fun e w' h => ⟨h.1, h.2.symm⟩)
      iterate 8 still_step
      still_call ((rpow10_c key r2 z _ HZ.out).mono fun e w' h => ⟨h.1, h.2.symm⟩)
      still_call ((rtimes_c b2 z x5 _ Q5.out QZ.out HM'.out).mono fun e w' h => ⟨h.1, h.2.symm⟩)
      iterate 2 still_step
      refine wpStill_nil ?_
      change wpList _ _ _ _ _ wr.drew
      go_wp2_with fail
      go_roundw
      case rel =>
        refine ⟨2 + 1, by omega, rfl, ?_, ?_, ?_, ?_⟩
        · exact Lib.hid (((HB.out.setCell (p := ⟨w.heap.size, 4, none⟩) (by simp) _).setCell (p := ⟨w.heap.size, 5, none⟩) (by simp) _).drew)
        · have h := (R0.out.set 4 (.int .i64 x4)).set 5 (.int .i64 x5)
          rw [upG_set2] at h; exact Lib.hid h
        · exact Lib.hid ((R1.out.other (b' := w.heap.size) 4 (.int .i64 x4) (by omega)).other (b' := w.heap.size) 5 (.int .i64 x5) (by omega))
        · exact Lib.hid ((R2.out.other (b' := w.heap.size) 4 (.int .i64 x4) (by omega)).other (b' := w.heap.size) 5 (.int .i64 x5) (by omega))
      case measure => simp [intOf]
    · rw [upG_3] at R0
      obtain ⟨f0, f1, f2, f3, f4, f5, _⟩ := blk6_facts R0.out
      obtain ⟨e0, e1, e2, e3, e4, e5, g0, g1, g2, g3, g4, g5⟩ := blk6_facts R2.out
      go_wp2_with fail
      clear e0 e1 e2 e3 e4 e5
      have hJ := six_stored R2.out (.int .i64 x0) (.int .i64 x1) (.int .i64 x2) (.int .i64 x3) (.int .i64 x4) (.int .i64 x5)
      have hBw := six_below (b := w.heap.size + 1 + 1) HB.out (by omega) (.int .i64 x0) (.int .i64 x1) (.int .i64 x2) (.int .i64 x3) (.int .i64 x4) (.int .i64 x5)
      generalize ((((((wr.setCell ⟨w.heap.size + 1 + 1, 0, none⟩ (.int .i64 x0)).setCell ⟨w.heap.size + 1 + 1, 1, none⟩ (.int .i64 x1)).setCell ⟨w.heap.size + 1 + 1, 2, none⟩ (.int .i64 x2)).setCell ⟨w.heap.size + 1 + 1, 3, none⟩ (.int .i64 x3)).setCell ⟨w.heap.size + 1 + 1, 4, none⟩ (.int .i64 x4)).setCell ⟨w.heap.size + 1 + 1, 5, none⟩ (.int .i64 x5)) = W2 at hJ hBw ⊢
      obtain ⟨e0, e1, e2, e3, e4, e5⟩ := res6_ret hJ
      refine bodyPost_ret (v := .tuple #[letV ((x0, x1), (x2, x3), (x4, x5)), .int .i64 0]) (by simp [results, Try.f18, go_sem, e0, e1, e2, e3, e4, e5]) rfl ⟨rfl, hBw⟩
end Go.Proofs.Ytbmeljkdemdloaa
