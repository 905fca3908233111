/- The reference of layer 10: Seal and Again. -/
import Derived.Test.YtbmeljkdemdloaaElgRefB
import Derived.BigRegion
import Derived.StillTailTactics
namespace Go.Proofs.Ytbmeljkdemdloaa
open Go.ChangeShapes Go.WideShapes Go.ChangeAt Go.RowKit Go.Shelf
set_option linter.unusedVariables false

def upG (k : Nat) (x0 x1 x2 x3 x4 x5 y0 y1 y2 y3 y4 y5 : Int) : Array Value := #[.int .i64 (if 0 < k then x0 else y0), .int .i64 (if 0 < k then x1 else y1), .int .i64 (if 1 < k then x2 else y2), .int .i64 (if 1 < k then x3 else y3), .int .i64 (if 2 < k then x4 else y4), .int .i64 (if 2 < k then x5 else y5)]
theorem upG_0 (x0 x1 x2 x3 x4 x5 y0 y1 y2 y3 y4 y5 : Int) : upG 0 x0 x1 x2 x3 x4 x5 y0 y1 y2 y3 y4 y5 = #[.int .i64 y0, .int .i64 y1, .int .i64 y2, .int .i64 y3, .int .i64 y4, .int .i64 y5] := by simp [upG]
theorem upG_3 (x0 x1 x2 x3 x4 x5 y0 y1 y2 y3 y4 y5 : Int) : upG 3 x0 x1 x2 x3 x4 x5 y0 y1 y2 y3 y4 y5 = #[.int .i64 x0, .int .i64 x1, .int .i64 x2, .int .i64 x3, .int .i64 x4, .int .i64 x5] := by simp [upG]
theorem upG_set0 (x0 x1 x2 x3 x4 x5 y0 y1 y2 y3 y4 y5 : Int) : ((upG 0 x0 x1 x2 x3 x4 x5 y0 y1 y2 y3 y4 y5).setIfInBounds 0 (.int .i64 x0)).setIfInBounds 1 (.int .i64 x1) = upG 1 x0 x1 x2 x3 x4 x5 y0 y1 y2 y3 y4 y5 := by simp [upG]
theorem upG_set1 (x0 x1 x2 x3 x4 x5 y0 y1 y2 y3 y4 y5 : Int) : ((upG 1 x0 x1 x2 x3 x4 x5 y0 y1 y2 y3 y4 y5).setIfInBounds 2 (.int .i64 x2)).setIfInBounds 3 (.int .i64 x3) = upG 2 x0 x1 x2 x3 x4 x5 y0 y1 y2 y3 y4 y5 := by simp [upG]
theorem upG_set2 (x0 x1 x2 x3 x4 x5 y0 y1 y2 y3 y4 y5 : Int) : ((upG 2 x0 x1 x2 x3 x4 x5 y0 y1 y2 y3 y4 y5).setIfInBounds 4 (.int .i64 x4)).setIfInBounds 5 (.int .i64 x5) = upG 3 x0 x1 x2 x3 x4 x5 y0 y1 y2 y3 y4 y5 := by simp [upG]

theorem upG_size (k : Nat) (x0 x1 x2 x3 x4 x5 y0 y1 y2 y3 y4 y5 : Int) : (upG k x0 x1 x2 x3 x4 x5 y0 y1 y2 y3 y4 y5).size = 6 := rfl

theorem relm_c (a x e : Int) (w : World) (hn : -9223372036854775808 ≤ a ∧ a ≤ 9223372036854775807) (h1 : elmZ a = x) (h2 : elmE a = e) :
    Calls Try.prog 44 #[.int .i64 a] w fun r w' => r = .returned (.tuple #[.int .i64 x, .int .i64 e]) ∧ w = w' := by
  rw [← h1, ← h2]; exact relm_any a w hn
theorem rpow10_c (a n x : Int) (w : World) (h : powZ a n = x) : Calls Try.prog 45 #[.int .i64 a, .int .i64 n] w fun e w' => e = .returned (.int .i64 x) ∧ w = w' := by
  rw [← h]; exact rpow10_any a n w
theorem rtimes_c (a b x : Int) (w : World) (ha : elB a = true) (hb : elB b = true) (h : mulZ a b = x) : Calls Try.prog 46 #[.int .i64 a, .int .i64 b] w fun e w' => e = .returned (.int .i64 x) ∧ w = w' := by
  rw [← h]; exact rtimes_any a b w ha hb
/-- six stores into a block: what it holds then -/
theorem six_stored {W : World} {b : Nat} {t : TypeId} {z0 z1 z2 z3 z4 z5 : Value} (h : Blk W b #[z0, z1, z2, z3, z4, z5] t) (v0 v1 v2 v3 v4 v5 : Value) :
    Blk ((((((W.setCell ⟨b, 0, none⟩ v0).setCell ⟨b, 1, none⟩ v1).setCell ⟨b, 2, none⟩ v2).setCell ⟨b, 3, none⟩ v3).setCell ⟨b, 4, none⟩ v4).setCell ⟨b, 5, none⟩ v5) b #[v0, v1, v2, v3, v4, v5] t :=
  ((((((h.set 0 v0).set 1 v1).set 2 v2).set 3 v3).set 4 v4).set 5 v5)
theorem six_below {w W : World} {m b : Nat} (h : Below m w W) (hb : m ≤ b) (v0 v1 v2 v3 v4 v5 : Value) :
    Below m w ((((((W.setCell ⟨b, 0, none⟩ v0).setCell ⟨b, 1, none⟩ v1).setCell ⟨b, 2, none⟩ v2).setCell ⟨b, 3, none⟩ v3).setCell ⟨b, 4, none⟩ v4).setCell ⟨b, 5, none⟩ v5) :=
  ((((((h.setCell (p := ⟨b, 0, none⟩) hb _).setCell (p := ⟨b, 1, none⟩) hb _).setCell (p := ⟨b, 2, none⟩) hb _).setCell (p := ⟨b, 3, none⟩) hb _).setCell (p := ⟨b, 4, none⟩) hb _).setCell (p := ⟨b, 5, none⟩) hb _)

set_option maxRecDepth 100000 in
set_option maxHeartbeats 4000000 in
theorem rseal_go (key n0 n1 n2 r0 r1 r2 x0 x1 x2 x3 x4 x5 : Int) (w : World) (bn0 : -9223372036854775808 ≤ n0 ∧ n0 ≤ 9223372036854775807) (bn1 : -9223372036854775808 ≤ n1 ∧ n1 ≤ 9223372036854775807) (bn2 : -9223372036854775808 ≤ n2 ∧ n2 ≤ 9223372036854775807)
    (h0 : Hid (powZ 4 r0 = x0)) (h1 : Hid (mulZ (elmZ n0) (powZ key r0) = x1)) (h2 : Hid (powZ 4 r1 = x2)) (h3 : Hid (mulZ (elmZ n1) (powZ key r1) = x3)) (h4 : Hid (powZ 4 r2 = x4)) (h5 : Hid (mulZ (elmZ n2) (powZ key r2) = x5))
    (L : Let) (E : Int) (j1 : Hid (elB key = false → L = zeroL ∧ E = 90)) (j2 : Hid (elB key = true → words3 n0 n1 n2 = false → L = zeroL ∧ E = 100)) (j3 : Hid (elB key = true → words3 n0 n1 n2 = true → L = ((x0, x1), (x2, x3), (x4, x5)) ∧ E = 0)) :
    Calls Try.prog 16 #[.int .i64 key, .agg #[.int .i64 n0, .int .i64 n1, .int .i64 n2], .agg #[.int .i64 r0, .int .i64 r1, .int .i64 r2]] w fun e w' => e = .returned (.tuple #[letV L, .int .i64 E]) ∧ Below w.heap.size w w' := by
  cases hk : elB key with
  | false =>
    have HK := Lib.hid hk
    obtain ⟨rfl, rfl⟩ := j1.out hk
    clear hk
    go_enter Try.func16, Try.ntmps16
    go_wp2_with fail
    refine (rvalid_any _ _).mono ?_; rintro e w' ⟨rfl, rfl⟩; rw [HK.out]
    go_wp2_with fail
    refine bodyPost_ret (v := .tuple #[letV zeroL, .int .i64 90]) (by simp [results, Try.f16, go_sem, zeroL]) rfl ⟨rfl, ?_⟩
    exact ((bel_alloc1 _ _).alloc (by simp) _).alloc (by simp; omega) _
  | true =>
  have HK := Lib.hid hk; clear hk
  go_enter Try.func16, Try.ntmps16
  go_wp2_with fail
  refine (rvalid_any _ _).mono ?_; rintro e w' ⟨rfl, rfl⟩; rw [HK.out]
  go_wp2_with fail

  obtain ⟨W, hW⟩ : ∃ W, ((((w.alloc (.cells #[.int .i64 n0, .int .i64 n1, .int .i64 n2] 30)).alloc (.cells #[.int .i64 r0, .int .i64 r1, .int .i64 r2] 29)).alloc (.cells #[.int .i64 0, .int .i64 0, .int .i64 0, .int .i64 0, .int .i64 0, .int .i64 0] 34)).alloc (.cells #[.int .i64 0, .int .i64 0, .int .i64 0, .int .i64 0, .int .i64 0, .int .i64 0] 34)) = W := ⟨_, rfl⟩
  have kv : Below w.heap.size w W := by rw [← hW]; exact ((((Below.refl w.heap.size w).alloc (Nat.le_refl _) _).alloc (by simp) _).alloc (by simp; omega) _).alloc (by simp; omega) _
  have v0 : Blk W w.heap.size #[.int .i64 n0, .int .i64 n1, .int .i64 n2] 30 := by rw [← hW]; exact (((Blk.new w _ _).alloc _).alloc _).alloc _
  have v1 : Blk W (w.heap.size + 1) #[.int .i64 r0, .int .i64 r1, .int .i64 r2] 29 := by
    rw [← hW]; have h := Blk.new (w.alloc (.cells #[.int .i64 n0, .int .i64 n1, .int .i64 n2] 30)) #[.int .i64 r0, .int .i64 r1, .int .i64 r2] 29
    rw [World.size_alloc] at h; exact (h.alloc _).alloc _
  have v2 : Blk W (w.heap.size + 1 + 1) #[.int .i64 0, .int .i64 0, .int .i64 0, .int .i64 0, .int .i64 0, .int .i64 0] 34 := by
    rw [← hW]; have h := Blk.new ((w.alloc (.cells #[.int .i64 n0, .int .i64 n1, .int .i64 n2] 30)).alloc (.cells #[.int .i64 r0, .int .i64 r1, .int .i64 r2] 29)) #[.int .i64 0, .int .i64 0, .int .i64 0, .int .i64 0, .int .i64 0, .int .i64 0] 34
    rw [World.size_alloc, World.size_alloc] at h; exact h.alloc _
  have v3 : Blk W (w.heap.size + 1 + 1 + 1) #[.int .i64 0, .int .i64 0, .int .i64 0, .int .i64 0, .int .i64 0, .int .i64 0] 34 := by
    rw [← hW]; have h := Blk.new (((w.alloc (.cells #[.int .i64 n0, .int .i64 n1, .int .i64 n2] 30)).alloc (.cells #[.int .i64 r0, .int .i64 r1, .int .i64 r2] 29)).alloc (.cells #[.int .i64 0, .int .i64 0, .int .i64 0, .int .i64 0, .int .i64 0, .int .i64 0] 34)) #[.int .i64 0, .int .i64 0, .int .i64 0, .int .i64 0, .int .i64 0, .int .i64 0] 34
    rw [World.size_alloc, World.size_alloc, World.size_alloc] at h; exact h
  rw [← upG_0 x0 x1 x2 x3 x4 x5 0 0 0 0 0 0] at v3
  rw [hW]
  have VW := Lib.hid kv; have V0 := Lib.hid v0; have V1 := Lib.hid v1; have V2 := Lib.hid v2; have V3 := Lib.hid v3
  clear hW kv v0 v1 v2 v3
  go_loopw [9] (fun i wr => ∃ k : Nat, k ≤ 3 ∧ i = .int .i64 k ∧ Hid (Below w.heap.size w wr) ∧ Hid (Blk wr w.heap.size #[.int .i64 n0, .int .i64 n1, .int .i64 n2] 30) ∧ Hid (Blk wr (w.heap.size + 1) #[.int .i64 r0, .int .i64 r1, .int .i64 r2] 29) ∧ Hid (Blk wr (w.heap.size + 1 + 1) #[.int .i64 0, .int .i64 0, .int .i64 0, .int .i64 0, .int .i64 0, .int .i64 0] 34) ∧ Hid (Blk wr (w.heap.size + 1 + 1 + 1) (upG k x0 x1 x2 x3 x4 x5 0 0 0 0 0 0) 34) ∧ Hid ((1 ≤ k → wordB n0 = true) ∧ (2 ≤ k → wordB n1 = true) ∧ (3 ≤ k → wordB n2 = true))) (fun i _ => 3 - (intOf i).toNat)
  case atStart => exact ⟨0, by omega, rfl, VW, V0, V1, V2, V3, Lib.hid ⟨by omega, by omega, by omega⟩⟩
  case round =>
    obtain ⟨k, hk, rfl, HB, R0, R1, R2, R3, hv⟩ := hrel
    obtain rfl | rfl | rfl | rfl : k = 0 ∨ k = 1 ∨ k = 2 ∨ k = 3 := by omega
    · obtain ⟨c0, c1, c2⟩ := blk3_facts R0.out
      obtain ⟨d0, d1, d2⟩ := blk3_facts R1.out
      cases hw : wordB n0 with
      | false =>
        obtain ⟨rfl, rfl⟩ := j2.out HK.out (show words3 n0 n1 n2 = false by unfold words3; simp [hw])
        have hnot : ¬ (1 ≤ n0 ∧ n0 ≤ 1073741789) := by unfold wordB at hw; simpa using hw
        have q1 := Lib.hid (show elmZ n0 = 0 by unfold elmZ; rw [if_neg hnot])
        have q2 := Lib.hid (show elmE n0 = 1 by unfold elmE; rw [if_neg hnot])
        obtain ⟨e0, e1, e2, e3, e4, e5, g0, g1, g2, g3, g4, g5⟩ := blk6_facts R2.out
        clear hw hnot
        go_wp2_with fail
        refine (relm_c n0 0 1 _ bn0 q1.out q2.out).mono ?_; rintro e w' ⟨rfl, rfl⟩
        go_wp2_with fail
        clear e0 e1 e2 e3 e4 e5
        have hJ := six_stored R2.out (.int .i64 0) (.int .i64 0) (.int .i64 0) (.int .i64 0) (.int .i64 0) (.int .i64 0)
        have hBw := six_below (b := w.heap.size + 1 + 1) HB.out (by omega) (.int .i64 0) (.int .i64 0) (.int .i64 0) (.int .i64 0) (.int .i64 0) (.int .i64 0)
        generalize ((((((wr.setCell ⟨w.heap.size + 1 + 1, 0, none⟩ (.int .i64 0)).setCell ⟨w.heap.size + 1 + 1, 1, none⟩ (.int .i64 0)).setCell ⟨w.heap.size + 1 + 1, 2, none⟩ (.int .i64 0)).setCell ⟨w.heap.size + 1 + 1, 3, none⟩ (.int .i64 0)).setCell ⟨w.heap.size + 1 + 1, 4, none⟩ (.int .i64 0)).setCell ⟨w.heap.size + 1 + 1, 5, none⟩ (.int .i64 0)) = W2 at hJ hBw ⊢
        obtain ⟨e0, e1, e2, e3, e4, e5⟩ := res6_ret hJ
        refine bodyPost_ret (v := .tuple #[letV ((0, 0), (0, 0), (0, 0)), .int .i64 100]) (by simp [results, Try.f16, go_sem, e0, e1, e2, e3, e4, e5]) rfl ⟨rfl, hBw⟩
      | true =>
        have HWk := Lib.hid hw
        obtain ⟨y, hy⟩ : ∃ y, elmZ n0 = y := ⟨_, rfl⟩
        have q0 : elB y = true := by rw [← hy]; exact elm_range (wordB_iff hw)
        have q2 := Lib.hid (show elmE n0 = 0 by unfold elmE; rw [if_pos (wordB_iff hw)])
        obtain ⟨z, hz⟩ : ∃ z, powZ key r0 = z := ⟨_, rfl⟩
        have q3 : elB z = true := by rw [← hz]; exact powZ_el HK.out _
        have hm := h1.out
        rw [hy, hz] at hm
        have Q0 := Lib.hid q0; have Q3 := Lib.hid q3; have HM := Lib.hid hm; have HY := Lib.hid hy; have HZ := Lib.hid hz
        have e0 := R3.out.cell 0; have e1 := R3.out.cell 1
        have g0 := R3.out.frozen 0; have g1 := R3.out.frozen 1
        simp [upG] at e0 e1
        clear hw q0 q3 hm hy hz
        go_wp2_with fail
        refine (relm_c n0 y 0 _ bn0 HY.out q2.out).mono ?_; rintro e w' ⟨rfl, rfl⟩
        go_wp2_with fail
        refine wp_region_still_tail 14 (by kernel_rfl) (by kernel_rfl) ?_
        change wpStill _ _ wr.drew _ _ _
        simp only [List.take_succ_cons, List.take_zero, List.drop_succ_cons, List.drop_zero]
        iterate 4 still_step
        still_call ((rpow10_c 4 r0 x0 _ h0.out).mono fun e w' h => ⟨h.1, h.2.symm⟩)
        iterate 5 still_step
        still_call ((rpow10_c key r0 z _ HZ.out).mono fun e w' h => ⟨h.1, h.2.symm⟩)
        still_call ((rtimes_c y z x1 _ Q0.out Q3.out HM.out).mono fun e w' h => ⟨h.1, h.2.symm⟩)
        iterate 2 still_step
        refine wpStill_nil ?_
        change wpList _ _ _ _ _ wr.drew
        go_wp2_with fail
        go_roundw
        case rel =>
          refine ⟨0 + 1, by omega, rfl, ?_, ?_, ?_, ?_, ?_, Lib.hid ⟨fun _ => by first | exact HWk.out | trivial, fun h => by omega, fun h => by omega⟩⟩
          · exact Lib.hid (((HB.out.setCell (p := ⟨w.heap.size + 1 + 1 + 1, 0, none⟩) (by simp; omega) _).setCell (p := ⟨w.heap.size + 1 + 1 + 1, 1, none⟩) (by simp; omega) _).drew)
          · exact Lib.hid ((R0.out.other (b' := w.heap.size + 1 + 1 + 1) 0 (.int .i64 x0) (by omega)).other (b' := w.heap.size + 1 + 1 + 1) 1 (.int .i64 x1) (by omega))
          · exact Lib.hid ((R1.out.other (b' := w.heap.size + 1 + 1 + 1) 0 (.int .i64 x0) (by omega)).other (b' := w.heap.size + 1 + 1 + 1) 1 (.int .i64 x1) (by omega))
          · exact Lib.hid ((R2.out.other (b' := w.heap.size + 1 + 1 + 1) 0 (.int .i64 x0) (by omega)).other (b' := w.heap.size + 1 + 1 + 1) 1 (.int .i64 x1) (by omega))
          · have h := (R3.out.set 0 (.int .i64 x0)).set 1 (.int .i64 x1)
            rw [upG_set0] at h; exact Lib.hid h
        case measure => simp [intOf]
    · obtain ⟨c0, c1, c2⟩ := blk3_facts R0.out
      obtain ⟨d0, d1, d2⟩ := blk3_facts R1.out
      cases hw : wordB n1 with
      | false =>
        obtain ⟨rfl, rfl⟩ := j2.out HK.out (show words3 n0 n1 n2 = false by unfold words3; simp [hw])
        have hnot : ¬ (1 ≤ n1 ∧ n1 ≤ 1073741789) := by unfold wordB at hw; simpa using hw
        have q1 := Lib.hid (show elmZ n1 = 0 by unfold elmZ; rw [if_neg hnot])
        have q2 := Lib.hid (show elmE n1 = 1 by unfold elmE; rw [if_neg hnot])
        obtain ⟨e0, e1, e2, e3, e4, e5, g0, g1, g2, g3, g4, g5⟩ := blk6_facts R2.out
        clear hw hnot
        go_wp2_with fail
        refine (relm_c n1 0 1 _ bn1 q1.out q2.out).mono ?_; rintro e w' ⟨rfl, rfl⟩
        go_wp2_with fail
        clear e0 e1 e2 e3 e4 e5
        have hJ := six_stored R2.out (.int .i64 0) (.int .i64 0) (.int .i64 0) (.int .i64 0) (.int .i64 0) (.int .i64 0)
        have hBw := six_below (b := w.heap.size + 1 + 1) HB.out (by omega) (.int .i64 0) (.int .i64 0) (.int .i64 0) (.int .i64 0) (.int .i64 0) (.int .i64 0)
        generalize ((((((wr.setCell ⟨w.heap.size + 1 + 1, 0, none⟩ (.int .i64 0)).setCell ⟨w.heap.size + 1 + 1, 1, none⟩ (.int .i64 0)).setCell ⟨w.heap.size + 1 + 1, 2, none⟩ (.int .i64 0)).setCell ⟨w.heap.size + 1 + 1, 3, none⟩ (.int .i64 0)).setCell ⟨w.heap.size + 1 + 1, 4, none⟩ (.int .i64 0)).setCell ⟨w.heap.size + 1 + 1, 5, none⟩ (.int .i64 0)) = W2 at hJ hBw ⊢
        obtain ⟨e0, e1, e2, e3, e4, e5⟩ := res6_ret hJ
        refine bodyPost_ret (v := .tuple #[letV ((0, 0), (0, 0), (0, 0)), .int .i64 100]) (by simp [results, Try.f16, go_sem, e0, e1, e2, e3, e4, e5]) rfl ⟨rfl, hBw⟩
      | true =>
        have HWk := Lib.hid hw
        obtain ⟨y, hy⟩ : ∃ y, elmZ n1 = y := ⟨_, rfl⟩
        have q0 : elB y = true := by rw [← hy]; exact elm_range (wordB_iff hw)
        have q2 := Lib.hid (show elmE n1 = 0 by unfold elmE; rw [if_pos (wordB_iff hw)])
        obtain ⟨z, hz⟩ : ∃ z, powZ key r1 = z := ⟨_, rfl⟩
        have q3 : elB z = true := by rw [← hz]; exact powZ_el HK.out _
        have hm := h3.out
        rw [hy, hz] at hm
        have Q0 := Lib.hid q0; have Q3 := Lib.hid q3; have HM := Lib.hid hm; have HY := Lib.hid hy; have HZ := Lib.hid hz
        have e0 := R3.out.cell 2; have e1 := R3.out.cell 3
        have g0 := R3.out.frozen 2; have g1 := R3.out.frozen 3
        simp [upG] at e0 e1
        clear hw q0 q3 hm hy hz
        go_wp2_with fail
        refine (relm_c n1 y 0 _ bn1 HY.out q2.out).mono ?_; rintro e w' ⟨rfl, rfl⟩
        go_wp2_with fail
        refine wp_region_still_tail 14 (by kernel_rfl) (by kernel_rfl) ?_
        change wpStill _ _ wr.drew _ _ _
        simp only [List.take_succ_cons, List.take_zero, List.drop_succ_cons, List.drop_zero]
        iterate 4 still_step
        still_call ((rpow10_c 4 r1 x2 _ h2.out).mono fun e w' h => ⟨h.1, h.2.symm⟩)
        iterate 5 still_step
        still_call ((rpow10_c key r1 z _ HZ.out).mono fun e w' h => ⟨h.1, h.2.symm⟩)
        still_call ((rtimes_c y z x3 _ Q0.out Q3.out HM.out).mono fun e w' h => ⟨h.1, h.2.symm⟩)
        iterate 2 still_step
        refine wpStill_nil ?_
        change wpList _ _ _ _ _ wr.drew
        go_wp2_with fail
        go_roundw
        case rel =>
          refine ⟨1 + 1, by omega, rfl, ?_, ?_, ?_, ?_, ?_, Lib.hid ⟨fun _ => hv.out.1 (by omega), fun _ => by first | exact HWk.out | trivial, fun h => by omega⟩⟩
          · exact Lib.hid (((HB.out.setCell (p := ⟨w.heap.size + 1 + 1 + 1, 2, none⟩) (by simp; omega) _).setCell (p := ⟨w.heap.size + 1 + 1 + 1, 3, none⟩) (by simp; omega) _).drew)
          · exact Lib.hid ((R0.out.other (b' := w.heap.size + 1 + 1 + 1) 2 (.int .i64 x2) (by omega)).other (b' := w.heap.size + 1 + 1 + 1) 3 (.int .i64 x3) (by omega))
          · exact Lib.hid ((R1.out.other (b' := w.heap.size + 1 + 1 + 1) 2 (.int .i64 x2) (by omega)).other (b' := w.heap.size + 1 + 1 + 1) 3 (.int .i64 x3) (by omega))
          · exact Lib.hid ((R2.out.other (b' := w.heap.size + 1 + 1 + 1) 2 (.int .i64 x2) (by omega)).other (b' := w.heap.size + 1 + 1 + 1) 3 (.int .i64 x3) (by omega))
          · have h := (R3.out.set 2 (.int .i64 x2)).set 3 (.int .i64 x3)
            rw [upG_set1] at h; exact Lib.hid h
        case measure => simp [intOf]
    · obtain ⟨c0, c1, c2⟩ := blk3_facts R0.out
      obtain ⟨d0, d1, d2⟩ := blk3_facts R1.out
      cases hw : wordB n2 with
      | false =>
        obtain ⟨rfl, rfl⟩ := j2.out HK.out (show words3 n0 n1 n2 = false by unfold words3; simp [hw])
        have hnot : ¬ (1 ≤ n2 ∧ n2 ≤ 1073741789) := by unfold wordB at hw; simpa using hw
        have q1 := Lib.hid (show elmZ n2 = 0 by unfold elmZ; rw [if_neg hnot])
        have q2 := Lib.hid (show elmE n2 = 1 by unfold elmE; rw [if_neg hnot])
        obtain ⟨e0, e1, e2, e3, e4, e5, g0, g1, g2, g3, g4, g5⟩ := blk6_facts R2.out
        clear hw hnot
        go_wp2_with fail
        refine (relm_c n2 0 1 _ bn2 q1.out q2.out).mono ?_; rintro e w' ⟨rfl, rfl⟩
        go_wp2_with fail
        clear e0 e1 e2 e3 e4 e5
        have hJ := six_stored R2.out (.int .i64 0) (.int .i64 0) (.int .i64 0) (.int .i64 0) (.int .i64 0) (.int .i64 0)
        have hBw := six_below (b := w.heap.size + 1 + 1) HB.out (by omega) (.int .i64 0) (.int .i64 0) (.int .i64 0) (.int .i64 0) (.int .i64 0) (.int .i64 0)
        generalize ((((((wr.setCell ⟨w.heap.size + 1 + 1, 0, none⟩ (.int .i64 0)).setCell ⟨w.heap.size + 1 + 1, 1, none⟩ (.int .i64 0)).setCell ⟨w.heap.size + 1 + 1, 2, none⟩ (.int .i64 0)).setCell ⟨w.heap.size + 1 + 1, 3, none⟩ (.int .i64 0)).setCell ⟨w.heap.size + 1 + 1, 4, none⟩ (.int .i64 0)).setCell ⟨w.heap.size + 1 + 1, 5, none⟩ (.int .i64 0)) = W2 at hJ hBw ⊢
        obtain ⟨e0, e1, e2, e3, e4, e5⟩ := res6_ret hJ
        refine bodyPost_ret (v := .tuple #[letV ((0, 0), (0, 0), (0, 0)), .int .i64 100]) (by simp [results, Try.f16, go_sem, e0, e1, e2, e3, e4, e5]) rfl ⟨rfl, hBw⟩
      | true =>
        have HWk := Lib.hid hw
        obtain ⟨y, hy⟩ : ∃ y, elmZ n2 = y := ⟨_, rfl⟩
        have q0 : elB y = true := by rw [← hy]; exact elm_range (wordB_iff hw)
        have q2 := Lib.hid (show elmE n2 = 0 by unfold elmE; rw [if_pos (wordB_iff hw)])
        obtain ⟨z, hz⟩ : ∃ z, powZ key r2 = z := ⟨_, rfl⟩
        have q3 : elB z = true := by rw [← hz]; exact powZ_el HK.out _
        have hm := h5.out
        rw [hy, hz] at hm
        have Q0 := Lib.hid q0; have Q3 := Lib.hid q3; have HM := Lib.hid hm; have HY := Lib.hid hy; have HZ := Lib.hid hz
        have e0 := R3.out.cell 4; have e1 := R3.out.cell 5
        have g0 := R3.out.frozen 4; have g1 := R3.out.frozen 5
        simp [upG] at e0 e1
        clear hw q0 q3 hm hy hz
        go_wp2_with fail
        refine (relm_c n2 y 0 _ bn2 HY.out q2.out).mono ?_; rintro e w' ⟨rfl, rfl⟩
        go_wp2_with fail
        refine wp_region_still_tail 14 (by kernel_rfl) (by kernel_rfl) ?_
        change wpStill _ _ wr.drew _ _ _
        simp only [List.take_succ_cons, List.take_zero, List.drop_succ_cons, List.drop_zero]
        iterate 4 still_step
        still_call ((rpow10_c 4 r2 x4 _ h4.out).mono fun e w' h => ⟨h.1, h.2.symm⟩)
        iterate 5 still_step
        still_call ((rpow10_c key r2 z _ HZ.out).mono fun e w' h => ⟨h.1, h.2.symm⟩)
        still_call ((rtimes_c y z x5 _ Q0.out Q3.out HM.out).mono fun e w' h => ⟨h.1, h.2.symm⟩)
        iterate 2 still_step
        refine wpStill_nil ?_
        change wpList _ _ _ _ _ wr.drew
        go_wp2_with fail
        go_roundw
        case rel =>
          refine ⟨2 + 1, by omega, rfl, ?_, ?_, ?_, ?_, ?_, Lib.hid ⟨fun _ => hv.out.1 (by omega), fun _ => hv.out.2.1 (by omega), fun _ => by first | exact HWk.out | trivial⟩⟩
          · exact Lib.hid (((HB.out.setCell (p := ⟨w.heap.size + 1 + 1 + 1, 4, none⟩) (by simp; omega) _).setCell (p := ⟨w.heap.size + 1 + 1 + 1, 5, none⟩) (by simp; omega) _).drew)
          · exact Lib.hid ((R0.out.other (b' := w.heap.size + 1 + 1 + 1) 4 (.int .i64 x4) (by omega)).other (b' := w.heap.size + 1 + 1 + 1) 5 (.int .i64 x5) (by omega))
          · exact Lib.hid ((R1.out.other (b' := w.heap.size + 1 + 1 + 1) 4 (.int .i64 x4) (by omega)).other (b' := w.heap.size + 1 + 1 + 1) 5 (.int .i64 x5) (by omega))
          · exact Lib.hid ((R2.out.other (b' := w.heap.size + 1 + 1 + 1) 4 (.int .i64 x4) (by omega)).other (b' := w.heap.size + 1 + 1 + 1) 5 (.int .i64 x5) (by omega))
          · have h := (R3.out.set 4 (.int .i64 x4)).set 5 (.int .i64 x5)
            rw [upG_set2] at h; exact Lib.hid h
        case measure => simp [intOf]
    · obtain ⟨rfl, rfl⟩ := j3.out HK.out (show words3 n0 n1 n2 = true by unfold words3; rw [hv.out.1 (by omega), hv.out.2.1 (by omega), hv.out.2.2 (by omega)]; rfl)
      rw [upG_3] at R3
      obtain ⟨f0, f1, f2, f3, f4, f5, _⟩ := blk6_facts R3.out
      obtain ⟨e0, e1, e2, e3, e4, e5, g0, g1, g2, g3, g4, g5⟩ := blk6_facts R2.out
      go_wp2_with fail
      clear e0 e1 e2 e3 e4 e5
      have hJ := six_stored R2.out (.int .i64 x0) (.int .i64 x1) (.int .i64 x2) (.int .i64 x3) (.int .i64 x4) (.int .i64 x5)
      have hBw := six_below (b := w.heap.size + 1 + 1) HB.out (by omega) (.int .i64 x0) (.int .i64 x1) (.int .i64 x2) (.int .i64 x3) (.int .i64 x4) (.int .i64 x5)
      generalize ((((((wr.setCell ⟨w.heap.size + 1 + 1, 0, none⟩ (.int .i64 x0)).setCell ⟨w.heap.size + 1 + 1, 1, none⟩ (.int .i64 x1)).setCell ⟨w.heap.size + 1 + 1, 2, none⟩ (.int .i64 x2)).setCell ⟨w.heap.size + 1 + 1, 3, none⟩ (.int .i64 x3)).setCell ⟨w.heap.size + 1 + 1, 4, none⟩ (.int .i64 x4)).setCell ⟨w.heap.size + 1 + 1, 5, none⟩ (.int .i64 x5)) = W2 at hJ hBw ⊢
      obtain ⟨e0, e1, e2, e3, e4, e5⟩ := res6_ret hJ
      refine bodyPost_ret (v := .tuple #[letV ((x0, x1), (x2, x3), (x4, x5)), .int .i64 0]) (by simp [results, Try.f16, go_sem, e0, e1, e2, e3, e4, e5]) rfl ⟨rfl, hBw⟩
end Go.Proofs.Ytbmeljkdemdloaa
