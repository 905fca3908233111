/- Sealed again twice: sealed again by the sums. No condition. -/
import Derived.Test.YtbmeljkdemdloaaElgTwice0
import Derived.BigRegion
namespace Go.Proofs.Ytbmeljkdemdloaa
open Go.ChangeShapes Go.WideShapes Go.ChangeAt Go.RowKit Go.Shelf
set_option linter.unusedVariables false

def up (k : Nat) (x0 x1 x2 : Int) : Array Value := #[.int .i64 (if 0 < k then x0 else 0), .int .i64 (if 1 < k then x1 else 0), .int .i64 (if 2 < k then x2 else 0)]

theorem up_3 (x0 x1 x2 : Int) : up 3 x0 x1 x2 = #[.int .i64 x0, .int .i64 x1, .int .i64 x2] := by simp [up]
theorem Blk.below2 {W W' : World} {o : Obj} {b : Nat} {c : Array Value} {t : TypeId} (h : Blk W b c t) (k : Below (W.alloc o).heap.size (W.alloc o) W') : Blk W' b c t := (h.alloc o).below k (h.alloc o).lt
theorem Blk.new2 {W W' : World} {c : Array Value} {t : TypeId} (k : Below (W.alloc (.cells c t)).heap.size (W.alloc (.cells c t)) W') : Blk W' W.heap.size c t := (Blk.new W c t).below k (Blk.new W c t).lt
theorem bel_trans2 {w W W' : World} {o : Obj} (h : Below w.heap.size w W) (k : Below (W.alloc o).heap.size (W.alloc o) W') : Below w.heap.size w W' := (h.alloc h.size o).trans (k.mono (by have := h.size; simp; omega))
theorem up_set0 (x0 x1 x2 : Int) : (up 0 x0 x1 x2).setIfInBounds 0 (.int .i64 x0) = up 1 x0 x1 x2 := by simp [up]
theorem up_set1 (x0 x1 x2 : Int) : (up 1 x0 x1 x2).setIfInBounds 1 (.int .i64 x1) = up 2 x0 x1 x2 := by simp [up]
theorem up_set2 (x0 x1 x2 : Int) : (up 2 x0 x1 x2).setIfInBounds 2 (.int .i64 x2) = up 3 x0 x1 x2 := by simp [up]

set_option maxRecDepth 100000 in
set_option maxHeartbeats 4000000 in
theorem elgamalTwice_walk (key a0 b0 a1 b1 a2 b2 n0 n1 n2 p0 p1 p2 q0 q1 q2 : Int) (w : World) (_ : (Lit.int .i64 key).wf = true) (_ : (Lit.int .i64 n0).wf = true) (_ : (Lit.int .i64 n1).wf = true) (_ : (Lit.int .i64 n2).wf = true)
    (wp0 : (Lit.int .i32 p0).wf = true) (wp1 : (Lit.int .i32 p1).wf = true) (wp2 : (Lit.int .i32 p2).wf = true) (wq0 : (Lit.int .i32 q0).wf = true) (wq1 : (Lit.int .i32 q1).wf = true) (wq2 : (Lit.int .i32 q2).wf = true) :
    Calls Try.prog 7 #[.int .i64 key, sealedV a0 b0 a1 b1 a2 b2, .agg #[.int .i64 n0, .int .i64 n1, .int .i64 n2], .agg #[.int .i32 p0, .int .i32 p1, .int .i32 p2], .agg #[.int .i32 q0, .int .i32 q1, .int .i32 q2]] w fun e w' => e = .returned (.bool true) ∧ Below w.heap.size w w' := by
  have bp0 := bounds_i32 wp0; have bp1 := bounds_i32 wp1; have bp2 := bounds_i32 wp2
  have bq0 := bounds_i32 wq0; have bq1 := bounds_i32 wq1; have bq2 := bounds_i32 wq2
  clear wp0 wp1 wp2 wq0 wq1 wq2
  go_enter Try.func7, Try.ntmps7
  go_wp2_with fail
  refine (sane10_any _).mono ?_; rintro e w1 ⟨rfl, hb1⟩
  obtain ⟨V, hV⟩ : ∃ V, (((w.alloc (.cells #[.int .i64 a0, .int .i64 b0, .int .i64 a1, .int .i64 b1, .int .i64 a2, .int .i64 b2] 34)).alloc (.cells #[.int .i64 n0, .int .i64 n1, .int .i64 n2] 30)).alloc (.cells #[.int .i32 p0, .int .i32 p1, .int .i32 p2] 51)).alloc (.cells #[.int .i32 q0, .int .i32 q1, .int .i32 q2] 51) = V := ⟨_, rfl⟩
  have kv : Below w.heap.size w V := by rw [← hV]; exact ((((Below.refl w.heap.size w).alloc (Nat.le_refl _) _).alloc (by simp) _).alloc (by simp; omega) _).alloc (by simp; omega) _
  have v0 : Blk V w.heap.size #[.int .i64 a0, .int .i64 b0, .int .i64 a1, .int .i64 b1, .int .i64 a2, .int .i64 b2] 34 := by rw [← hV]; exact (((Blk.new w _ _).alloc _).alloc _).alloc _
  have v1 : Blk V (w.heap.size + 1) #[.int .i64 n0, .int .i64 n1, .int .i64 n2] 30 := by
    rw [← hV]; have h := Blk.new (w.alloc (.cells #[.int .i64 a0, .int .i64 b0, .int .i64 a1, .int .i64 b1, .int .i64 a2, .int .i64 b2] 34)) #[.int .i64 n0, .int .i64 n1, .int .i64 n2] 30
    rw [World.size_alloc] at h; exact (h.alloc _).alloc _
  have v2 : Blk V (w.heap.size + 1 + 1) #[.int .i32 p0, .int .i32 p1, .int .i32 p2] 51 := by
    rw [← hV]; have h := Blk.new ((w.alloc (.cells #[.int .i64 a0, .int .i64 b0, .int .i64 a1, .int .i64 b1, .int .i64 a2, .int .i64 b2] 34)).alloc (.cells #[.int .i64 n0, .int .i64 n1, .int .i64 n2] 30)) #[.int .i32 p0, .int .i32 p1, .int .i32 p2] 51
    rw [World.size_alloc, World.size_alloc] at h; exact h.alloc _
  have v3 : Blk V (w.heap.size + 1 + 1 + 1) #[.int .i32 q0, .int .i32 q1, .int .i32 q2] 51 := by
    rw [← hV]; have h := Blk.new (((w.alloc (.cells #[.int .i64 a0, .int .i64 b0, .int .i64 a1, .int .i64 b1, .int .i64 a2, .int .i64 b2] 34)).alloc (.cells #[.int .i64 n0, .int .i64 n1, .int .i64 n2] 30)).alloc (.cells #[.int .i32 p0, .int .i32 p1, .int .i32 p2] 51)) #[.int .i32 q0, .int .i32 q1, .int .i32 q2] 51
    rw [World.size_alloc, World.size_alloc, World.size_alloc] at h; exact h
  have h1 : Hid (Below w.heap.size w w1) := Lib.hid (kv.trans (by rw [hV] at hb1; exact hb1.mono kv.size))
  rw [hV] at hb1
  have KS1 := Lib.hid (v0.below hb1 v0.lt); have KN1 := Lib.hid (v1.below hb1 v1.lt); have KA1 := Lib.hid (v2.below hb1 v2.lt); have KB1 := Lib.hid (v3.below hb1 v3.lt)
  clear v0 v1 v2 v3 kv hb1 hV
  obtain ⟨s0, s1, s2, s3, s4, s5, _⟩ := blk6_facts KS1.out
  have l1 : w.heap.size + 1 < w1.heap.size := KN1.out.lt
  cases hk : elB key with
  | false =>
    have HK := Lib.hid hk; clear hk
    go_wp2_with fail
    refine (rvalid_any _ _).mono ?_; rintro e w' ⟨rfl, rfl⟩; rw [HK.out]
    go_wp2_with fail
    go_ret
    exact ⟨rfl, h1.out⟩
  | true =>
  have HK := Lib.hid hk; clear hk
  go_wp2_with fail
  refine (rvalid_any _ _).mono ?_; rintro e w' ⟨rfl, rfl⟩; rw [HK.out]
  rcases chkE_or a0 b0 a1 b1 a2 b2 with hc | hc
  case inr =>
    go_wp2_with fail
    refine (rcheck_any _ _ _ _ _ _ _).mono ?_; rintro e w2 ⟨rfl, hb2⟩; rw [hc]
    have h2 := Lib.hid (bel_trans h1.out hb2); clear hb2 hc
    go_wp2_with fail
    go_ret
    exact ⟨rfl, h2.out⟩
  go_wp2_with fail
  refine (rcheck_any _ _ _ _ _ _ _).mono ?_; rintro e w2 ⟨rfl, hb2⟩; rw [hc]
  have HC := Lib.hid hc
  have KS2 := Lib.hid (KS1.out.below hb2 KS1.out.lt); have KN2 := Lib.hid (KN1.out.below hb2 KN1.out.lt); have KA2 := Lib.hid (KA1.out.below hb2 KA1.out.lt); have KB2 := Lib.hid (KB1.out.below hb2 KB1.out.lt)
  have h2 := Lib.hid (bel_trans h1.out hb2); clear hb2 s0 s1 s2 s3 s4 s5 l1 hc
  obtain ⟨m0, m1, m2⟩ := blk3_facts KN2.out
  have l2 : w.heap.size + 1 < w2.heap.size := KN2.out.lt
  cases hw : words3 n0 n1 n2 with
  | false =>
    have HW := Lib.hid hw; clear hw
    go_wp2_with fail
    refine (words_any _ _ _ _).mono ?_; rintro e w3 ⟨rfl, hb3⟩; rw [HW.out]
    have h3 := Lib.hid (bel_trans h2.out hb3); clear hb3
    go_wp2_with fail
    go_ret
    exact ⟨rfl, h3.out⟩
  | true =>
  have HW := Lib.hid hw; clear hw
  go_wp2_with fail
  refine (words_any _ _ _ _).mono ?_; rintro e w3 ⟨rfl, hb3⟩; rw [HW.out]
  have KS3 := Lib.hid (KS2.out.below hb3 KS2.out.lt); have KN3 := Lib.hid (KN2.out.below hb3 KN2.out.lt); have KA3 := Lib.hid (KA2.out.below hb3 KA2.out.lt); have KB3 := Lib.hid (KB2.out.below hb3 KB2.out.lt)
  have h3 := Lib.hid (bel_trans h2.out hb3); clear hb3 m0 m1 m2 l2
  go_wp2_with fail
  obtain ⟨W, hW⟩ : ∃ W, (((w3.alloc (.cells #[.int .i64 0, .int .i64 0, .int .i64 0] 29)).alloc (.cells #[.int .i64 0, .int .i64 0, .int .i64 0] 29)).alloc (.cells #[.int .i64 0, .int .i64 0, .int .i64 0] 29)).alloc (.cells #[.int .i64 0, .int .i64 0, .int .i64 0] 29) = W := ⟨_, rfl⟩
  have kv : Below w3.heap.size w3 W := by rw [← hW]; exact ((((Below.refl w3.heap.size w3).alloc (Nat.le_refl _) _).alloc (by simp) _).alloc (by simp; omega) _).alloc (by simp; omega) _
  have v0 : Blk W w3.heap.size (up 0 p0 p1 p2) 29 := by rw [← hW]; exact (((Blk.new w3 _ _).alloc _).alloc _).alloc _
  have v1 : Blk W (w3.heap.size + 1) (up 0 q0 q1 q2) 29 := by
    rw [← hW]; have h := Blk.new (w3.alloc (.cells #[.int .i64 0, .int .i64 0, .int .i64 0] 29)) #[.int .i64 0, .int .i64 0, .int .i64 0] 29
    rw [World.size_alloc] at h; exact (h.alloc _).alloc _
  have v2 : Blk W (w3.heap.size + 1 + 1) (up 0 (p0 + q0) (p1 + q1) (p2 + q2)) 29 := by
    rw [← hW]; have h := Blk.new ((w3.alloc (.cells #[.int .i64 0, .int .i64 0, .int .i64 0] 29)).alloc (.cells #[.int .i64 0, .int .i64 0, .int .i64 0] 29)) #[.int .i64 0, .int .i64 0, .int .i64 0] 29
    rw [World.size_alloc, World.size_alloc] at h; exact h.alloc _
  have v3 : Blk W (w3.heap.size + 1 + 1 + 1) (up 0 (-p0) (-p1) (-p2)) 29 := by
    rw [← hW]; have h := Blk.new (((w3.alloc (.cells #[.int .i64 0, .int .i64 0, .int .i64 0] 29)).alloc (.cells #[.int .i64 0, .int .i64 0, .int .i64 0] 29)).alloc (.cells #[.int .i64 0, .int .i64 0, .int .i64 0] 29)) #[.int .i64 0, .int .i64 0, .int .i64 0] 29
    rw [World.size_alloc, World.size_alloc, World.size_alloc] at h; exact h
  rw [hW]
  have VW := Lib.hid kv; have V0 := Lib.hid v0; have V1 := Lib.hid v1; have V2 := Lib.hid v2; have V3 := Lib.hid v3
  clear hW kv v0 v1 v2 v3
  go_loopw [51] (fun i wr => ∃ k : Nat, k ≤ 3 ∧ i = .int .i64 k ∧ Hid (Below w3.heap.size w3 wr) ∧ Hid (Blk wr w3.heap.size (up k p0 p1 p2) 29) ∧ Hid (Blk wr (w3.heap.size + 1) (up k q0 q1 q2) 29) ∧ Hid (Blk wr (w3.heap.size + 1 + 1) (up k (p0 + q0) (p1 + q1) (p2 + q2)) 29) ∧ Hid (Blk wr (w3.heap.size + 1 + 1 + 1) (up k (-p0) (-p1) (-p2)) 29)) (fun i _ => 3 - (intOf i).toNat)
  case atStart => exact ⟨0, by omega, rfl, VW, V0, V1, V2, V3⟩
  case round =>
    obtain ⟨k, hk, rfl, HB, R0, R1, R2, R3⟩ := hrel
    obtain rfl | rfl | rfl | rfl : k = 0 ∨ k = 1 ∨ k = 2 ∨ k = 3 := by omega
    · obtain ⟨c0, c1, c2⟩ := blk3_facts (KA3.out.below HB.out KA3.out.lt)
      obtain ⟨d0, d1, d2⟩ := blk3_facts (KB3.out.below HB.out KB3.out.lt)
      have e0 := R0.out.cell 0; have e1 := R1.out.cell 0
      have g0 := R0.out.frozen 0; have g1 := R1.out.frozen 0
      simp [up] at e0 e1
      have lA : w.heap.size + 1 + 1 < w3.heap.size := KA3.out.lt
      have lB : w.heap.size + 1 + 1 + 1 < w3.heap.size := KB3.out.lt
      go_wp2_with fail
      go_region
      all_goals go_wp2_with fail
      have x0 : Blk (((wr.setCell ⟨w3.heap.size, 0, none⟩ (.int .i64 p0)).setCell ⟨w3.heap.size + 1, 0, none⟩ (.int .i64 q0)).drew) w3.heap.size (up 1 p0 p1 p2) 29 := by
        have h := (R0.out.set 0 (.int .i64 p0)).other (b' := w3.heap.size + 1) 0 (.int .i64 q0) (by omega)
        rw [up_set0] at h; exact h
      have x1 : Blk (((wr.setCell ⟨w3.heap.size, 0, none⟩ (.int .i64 p0)).setCell ⟨w3.heap.size + 1, 0, none⟩ (.int .i64 q0)).drew) (w3.heap.size + 1) (up 1 q0 q1 q2) 29 := by
        have h := (R1.out.other (b' := w3.heap.size) 0 (.int .i64 p0) (by omega)).set 0 (.int .i64 q0)
        rw [up_set0] at h; exact h
      have x2 : Blk (((wr.setCell ⟨w3.heap.size, 0, none⟩ (.int .i64 p0)).setCell ⟨w3.heap.size + 1, 0, none⟩ (.int .i64 q0)).drew) (w3.heap.size + 1 + 1) (up 0 (p0 + q0) (p1 + q1) (p2 + q2)) 29 :=
        (R2.out.other (b' := w3.heap.size) 0 (.int .i64 p0) (by omega)).other (b' := w3.heap.size + 1) 0 (.int .i64 q0) (by omega)
      have x3 : Blk (((wr.setCell ⟨w3.heap.size, 0, none⟩ (.int .i64 p0)).setCell ⟨w3.heap.size + 1, 0, none⟩ (.int .i64 q0)).drew) (w3.heap.size + 1 + 1 + 1) (up 0 (-p0) (-p1) (-p2)) 29 :=
        (R3.out.other (b' := w3.heap.size) 0 (.int .i64 p0) (by omega)).other (b' := w3.heap.size + 1) 0 (.int .i64 q0) (by omega)
      have xb : Below w3.heap.size w3 (((wr.setCell ⟨w3.heap.size, 0, none⟩ (.int .i64 p0)).setCell ⟨w3.heap.size + 1, 0, none⟩ (.int .i64 q0)).drew) :=
        ((HB.out.setCell (p := ⟨w3.heap.size, 0, none⟩) (by simp) _).setCell (p := ⟨w3.heap.size + 1, 0, none⟩) (by simp) _).drew
      generalize (((wr.setCell ⟨w3.heap.size, 0, none⟩ (.int .i64 p0)).setCell ⟨w3.heap.size + 1, 0, none⟩ (.int .i64 q0)).drew) = X at x0 x1 x2 x3 xb ⊢
      clear c0 c1 c2 d0 d1 d2 e0 e1 g0 g1
      have e0 := x0.cell 0; have e1 := x1.cell 0; have e2 := x2.cell 0; have e3 := x3.cell 0
      have g2 := x2.frozen 0; have g3 := x3.frozen 0
      simp [up] at e0 e1 e2 e3
      have X0 := Lib.hid x0; have X1 := Lib.hid x1; have X2 := Lib.hid x2; have X3 := Lib.hid x3; have XB := Lib.hid xb
      clear x0 x1 x2 x3 xb
      go_region
      all_goals go_wp2_with fail
      go_roundw
      case rel =>
        refine ⟨0 + 1, by omega, rfl, ?_, ?_, ?_, ?_, ?_⟩
        · exact Lib.hid (((XB.out.setCell (p := ⟨w3.heap.size + 1 + 1, 0, none⟩) (by simp; omega) _).setCell (p := ⟨w3.heap.size + 1 + 1 + 1, 0, none⟩) (by simp; omega) _).drew)
        · exact Lib.hid ((X0.out.other (b' := w3.heap.size + 1 + 1) 0 (.int .i64 (p0 + q0)) (by omega)).other (b' := w3.heap.size + 1 + 1 + 1) 0 (.int .i64 (-p0)) (by omega))
        · exact Lib.hid ((X1.out.other (b' := w3.heap.size + 1 + 1) 0 (.int .i64 (p0 + q0)) (by omega)).other (b' := w3.heap.size + 1 + 1 + 1) 0 (.int .i64 (-p0)) (by omega))
        · have h := (X2.out.set 0 (.int .i64 (p0 + q0))).other (b' := w3.heap.size + 1 + 1 + 1) 0 (.int .i64 (-p0)) (by omega)
          rw [up_set0] at h; exact Lib.hid h
        · have h := (X3.out.other (b' := w3.heap.size + 1 + 1) 0 (.int .i64 (p0 + q0)) (by omega)).set 0 (.int .i64 (-p0))
          rw [up_set0] at h; exact Lib.hid h
      case measure => simp [intOf]
    · obtain ⟨c0, c1, c2⟩ := blk3_facts (KA3.out.below HB.out KA3.out.lt)
      obtain ⟨d0, d1, d2⟩ := blk3_facts (KB3.out.below HB.out KB3.out.lt)
      have e0 := R0.out.cell 1; have e1 := R1.out.cell 1
      have g0 := R0.out.frozen 1; have g1 := R1.out.frozen 1
      simp [up] at e0 e1
      have lA : w.heap.size + 1 + 1 < w3.heap.size := KA3.out.lt
      have lB : w.heap.size + 1 + 1 + 1 < w3.heap.size := KB3.out.lt
      go_wp2_with fail
      go_region
      all_goals go_wp2_with fail
      have x0 : Blk (((wr.setCell ⟨w3.heap.size, 1, none⟩ (.int .i64 p1)).setCell ⟨w3.heap.size + 1, 1, none⟩ (.int .i64 q1)).drew) w3.heap.size (up 2 p0 p1 p2) 29 := by
        have h := (R0.out.set 1 (.int .i64 p1)).other (b' := w3.heap.size + 1) 1 (.int .i64 q1) (by omega)
        rw [up_set1] at h; exact h
      have x1 : Blk (((wr.setCell ⟨w3.heap.size, 1, none⟩ (.int .i64 p1)).setCell ⟨w3.heap.size + 1, 1, none⟩ (.int .i64 q1)).drew) (w3.heap.size + 1) (up 2 q0 q1 q2) 29 := by
        have h := (R1.out.other (b' := w3.heap.size) 1 (.int .i64 p1) (by omega)).set 1 (.int .i64 q1)
        rw [up_set1] at h; exact h
      have x2 : Blk (((wr.setCell ⟨w3.heap.size, 1, none⟩ (.int .i64 p1)).setCell ⟨w3.heap.size + 1, 1, none⟩ (.int .i64 q1)).drew) (w3.heap.size + 1 + 1) (up 1 (p0 + q0) (p1 + q1) (p2 + q2)) 29 :=
        (R2.out.other (b' := w3.heap.size) 1 (.int .i64 p1) (by omega)).other (b' := w3.heap.size + 1) 1 (.int .i64 q1) (by omega)
      have x3 : Blk (((wr.setCell ⟨w3.heap.size, 1, none⟩ (.int .i64 p1)).setCell ⟨w3.heap.size + 1, 1, none⟩ (.int .i64 q1)).drew) (w3.heap.size + 1 + 1 + 1) (up 1 (-p0) (-p1) (-p2)) 29 :=
        (R3.out.other (b' := w3.heap.size) 1 (.int .i64 p1) (by omega)).other (b' := w3.heap.size + 1) 1 (.int .i64 q1) (by omega)
      have xb : Below w3.heap.size w3 (((wr.setCell ⟨w3.heap.size, 1, none⟩ (.int .i64 p1)).setCell ⟨w3.heap.size + 1, 1, none⟩ (.int .i64 q1)).drew) :=
        ((HB.out.setCell (p := ⟨w3.heap.size, 1, none⟩) (by simp) _).setCell (p := ⟨w3.heap.size + 1, 1, none⟩) (by simp) _).drew
      generalize (((wr.setCell ⟨w3.heap.size, 1, none⟩ (.int .i64 p1)).setCell ⟨w3.heap.size + 1, 1, none⟩ (.int .i64 q1)).drew) = X at x0 x1 x2 x3 xb ⊢
      clear c0 c1 c2 d0 d1 d2 e0 e1 g0 g1
      have e0 := x0.cell 1; have e1 := x1.cell 1; have e2 := x2.cell 1; have e3 := x3.cell 1
      have g2 := x2.frozen 1; have g3 := x3.frozen 1
      simp [up] at e0 e1 e2 e3
      have X0 := Lib.hid x0; have X1 := Lib.hid x1; have X2 := Lib.hid x2; have X3 := Lib.hid x3; have XB := Lib.hid xb
      clear x0 x1 x2 x3 xb
      go_region
      all_goals go_wp2_with fail
      go_roundw
      case rel =>
        refine ⟨1 + 1, by omega, rfl, ?_, ?_, ?_, ?_, ?_⟩
        · exact Lib.hid (((XB.out.setCell (p := ⟨w3.heap.size + 1 + 1, 1, none⟩) (by simp; omega) _).setCell (p := ⟨w3.heap.size + 1 + 1 + 1, 1, none⟩) (by simp; omega) _).drew)
        · exact Lib.hid ((X0.out.other (b' := w3.heap.size + 1 + 1) 1 (.int .i64 (p1 + q1)) (by omega)).other (b' := w3.heap.size + 1 + 1 + 1) 1 (.int .i64 (-p1)) (by omega))
        · exact Lib.hid ((X1.out.other (b' := w3.heap.size + 1 + 1) 1 (.int .i64 (p1 + q1)) (by omega)).other (b' := w3.heap.size + 1 + 1 + 1) 1 (.int .i64 (-p1)) (by omega))
        · have h := (X2.out.set 1 (.int .i64 (p1 + q1))).other (b' := w3.heap.size + 1 + 1 + 1) 1 (.int .i64 (-p1)) (by omega)
          rw [up_set1] at h; exact Lib.hid h
        · have h := (X3.out.other (b' := w3.heap.size + 1 + 1) 1 (.int .i64 (p1 + q1)) (by omega)).set 1 (.int .i64 (-p1))
          rw [up_set1] at h; exact Lib.hid h
      case measure => simp [intOf]
    · obtain ⟨c0, c1, c2⟩ := blk3_facts (KA3.out.below HB.out KA3.out.lt)
      obtain ⟨d0, d1, d2⟩ := blk3_facts (KB3.out.below HB.out KB3.out.lt)
      have e0 := R0.out.cell 2; have e1 := R1.out.cell 2
      have g0 := R0.out.frozen 2; have g1 := R1.out.frozen 2
      simp [up] at e0 e1
      have lA : w.heap.size + 1 + 1 < w3.heap.size := KA3.out.lt
      have lB : w.heap.size + 1 + 1 + 1 < w3.heap.size := KB3.out.lt
      go_wp2_with fail
      go_region
      all_goals go_wp2_with fail
      have x0 : Blk (((wr.setCell ⟨w3.heap.size, 2, none⟩ (.int .i64 p2)).setCell ⟨w3.heap.size + 1, 2, none⟩ (.int .i64 q2)).drew) w3.heap.size (up 3 p0 p1 p2) 29 := by
        have h := (R0.out.set 2 (.int .i64 p2)).other (b' := w3.heap.size + 1) 2 (.int .i64 q2) (by omega)
        rw [up_set2] at h; exact h
      have x1 : Blk (((wr.setCell ⟨w3.heap.size, 2, none⟩ (.int .i64 p2)).setCell ⟨w3.heap.size + 1, 2, none⟩ (.int .i64 q2)).drew) (w3.heap.size + 1) (up 3 q0 q1 q2) 29 := by
        have h := (R1.out.other (b' := w3.heap.size) 2 (.int .i64 p2) (by omega)).set 2 (.int .i64 q2)
        rw [up_set2] at h; exact h
      have x2 : Blk (((wr.setCell ⟨w3.heap.size, 2, none⟩ (.int .i64 p2)).setCell ⟨w3.heap.size + 1, 2, none⟩ (.int .i64 q2)).drew) (w3.heap.size + 1 + 1) (up 2 (p0 + q0) (p1 + q1) (p2 + q2)) 29 :=
        (R2.out.other (b' := w3.heap.size) 2 (.int .i64 p2) (by omega)).other (b' := w3.heap.size + 1) 2 (.int .i64 q2) (by omega)
      have x3 : Blk (((wr.setCell ⟨w3.heap.size, 2, none⟩ (.int .i64 p2)).setCell ⟨w3.heap.size + 1, 2, none⟩ (.int .i64 q2)).drew) (w3.heap.size + 1 + 1 + 1) (up 2 (-p0) (-p1) (-p2)) 29 :=
        (R3.out.other (b' := w3.heap.size) 2 (.int .i64 p2) (by omega)).other (b' := w3.heap.size + 1) 2 (.int .i64 q2) (by omega)
      have xb : Below w3.heap.size w3 (((wr.setCell ⟨w3.heap.size, 2, none⟩ (.int .i64 p2)).setCell ⟨w3.heap.size + 1, 2, none⟩ (.int .i64 q2)).drew) :=
        ((HB.out.setCell (p := ⟨w3.heap.size, 2, none⟩) (by simp) _).setCell (p := ⟨w3.heap.size + 1, 2, none⟩) (by simp) _).drew
      generalize (((wr.setCell ⟨w3.heap.size, 2, none⟩ (.int .i64 p2)).setCell ⟨w3.heap.size + 1, 2, none⟩ (.int .i64 q2)).drew) = X at x0 x1 x2 x3 xb ⊢
      clear c0 c1 c2 d0 d1 d2 e0 e1 g0 g1
      have e0 := x0.cell 2; have e1 := x1.cell 2; have e2 := x2.cell 2; have e3 := x3.cell 2
      have g2 := x2.frozen 2; have g3 := x3.frozen 2
      simp [up] at e0 e1 e2 e3
      have X0 := Lib.hid x0; have X1 := Lib.hid x1; have X2 := Lib.hid x2; have X3 := Lib.hid x3; have XB := Lib.hid xb
      clear x0 x1 x2 x3 xb
      go_region
      all_goals go_wp2_with fail
      go_roundw
      case rel =>
        refine ⟨2 + 1, by omega, rfl, ?_, ?_, ?_, ?_, ?_⟩
        · exact Lib.hid (((XB.out.setCell (p := ⟨w3.heap.size + 1 + 1, 2, none⟩) (by simp; omega) _).setCell (p := ⟨w3.heap.size + 1 + 1 + 1, 2, none⟩) (by simp; omega) _).drew)
        · exact Lib.hid ((X0.out.other (b' := w3.heap.size + 1 + 1) 2 (.int .i64 (p2 + q2)) (by omega)).other (b' := w3.heap.size + 1 + 1 + 1) 2 (.int .i64 (-p2)) (by omega))
        · exact Lib.hid ((X1.out.other (b' := w3.heap.size + 1 + 1) 2 (.int .i64 (p2 + q2)) (by omega)).other (b' := w3.heap.size + 1 + 1 + 1) 2 (.int .i64 (-p2)) (by omega))
        · have h := (X2.out.set 2 (.int .i64 (p2 + q2))).other (b' := w3.heap.size + 1 + 1 + 1) 2 (.int .i64 (-p2)) (by omega)
          rw [up_set2] at h; exact Lib.hid h
        · have h := (X3.out.other (b' := w3.heap.size + 1 + 1) 2 (.int .i64 (p2 + q2)) (by omega)).set 2 (.int .i64 (-p2))
          rw [up_set2] at h; exact Lib.hid h
      case measure => simp [intOf]
    · rw [up_3] at R0 R1 R2 R3
      have okl : okL ((a0, b0), (a1, b1), (a2, b2)) = true := okL_of HC.out
      obtain ⟨⟨⟨x0, x1⟩, ⟨x2, x3⟩, ⟨x4, x5⟩⟩, hX⟩ : ∃ L : Let, againR key p0 p1 p2 ((a0, b0), (a1, b1), (a2, b2)) = L := ⟨_, rfl⟩
      obtain ⟨⟨⟨z0, z1⟩, ⟨z2, z3⟩, ⟨z4, z5⟩⟩, hZ⟩ : ∃ L : Let, againR key (p0 + q0) (p1 + q1) (p2 + q2) ((a0, b0), (a1, b1), (a2, b2)) = L := ⟨_, rfl⟩
      obtain ⟨⟨⟨u0, u1⟩, ⟨u2, u3⟩, ⟨u4, u5⟩⟩, hU⟩ : ∃ L : Let, againR key q0 q1 q2 ((a0, b0), (a1, b1), (a2, b2)) = L := ⟨_, rfl⟩
      obtain ⟨⟨⟨c0, c1⟩, ⟨c2, c3⟩, ⟨c4, c5⟩⟩, hC⟩ : ∃ L : Let, sealR key n0 n1 n2 p0 p1 p2 = L := ⟨_, rfl⟩
      obtain ⟨⟨⟨t0, t1⟩, ⟨t2, t3⟩, ⟨t4, t5⟩⟩, hT⟩ : ∃ L : Let, sealR key n0 n1 n2 (p0 + q0) (p1 + q1) (p2 + q2) = L := ⟨_, rfl⟩
      have okX : okL ((x0, x1), (x2, x3), (x4, x5)) = true := by rw [← hX]; exact okL_again HK.out okl
      have okU : okL ((u0, u1), (u2, u3), (u4, u5)) = true := by rw [← hU]; exact okL_again HK.out okl
      have okC : okL ((c0, c1), (c2, c3), (c4, c5)) = true := by rw [← hC, seal_again HK.out HW.out]; exact okL_again HK.out (okL_say HW.out)
      have HY := Lib.hid (show againR key q0 q1 q2 ((x0, x1), (x2, x3), (x4, x5)) = ((z0, z1), (z2, z3), (z4, z5)) by rw [← hX, again_again HK.out okl, hZ])
      have HV := Lib.hid (show againR key p0 p1 p2 ((u0, u1), (u2, u3), (u4, u5)) = ((z0, z1), (z2, z3), (z4, z5)) by rw [← hU, again_again HK.out okl, Int.add_comm q0, Int.add_comm q1, Int.add_comm q2, hZ])
      have HD := Lib.hid (show againR key (-p0) (-p1) (-p2) ((x0, x1), (x2, x3), (x4, x5)) = ((a0, b0), (a1, b1), (a2, b2)) by rw [← hX, again_again HK.out okl, Int.add_right_neg, Int.add_right_neg, Int.add_right_neg, again_zero HK.out okl])
      have HE := Lib.hid (show againR key q0 q1 q2 ((c0, c1), (c2, c3), (c4, c5)) = ((t0, t1), (t2, t3), (t4, t5)) by rw [← hC, seal_again HK.out HW.out, again_again HK.out (okL_say HW.out), ← seal_again HK.out HW.out, hT])
      have HX := Lib.hid hX; have HZ := Lib.hid hZ; have HU := Lib.hid hU; have HCC := Lib.hid hC; have HT := Lib.hid hT
      have EL := Lib.hid (againE_ok HK.out okl); have EX := Lib.hid (againE_ok HK.out okX); have EU := Lib.hid (againE_ok HK.out okU); have EC := Lib.hid (againE_ok HK.out okC); have ES := Lib.hid (sealE_ok HK.out HW.out)
      clear hX hZ hU hC hT okl okX okU okC
      have y0h : Hid (Below w.heap.size w wr) := Lib.hid (h3.out.trans (HB.out.mono h3.out.size))
      have Ks0 := Lib.hid (KS3.out.below HB.out KS3.out.lt); have Kn0 := Lib.hid (KN3.out.below HB.out KN3.out.lt)
      have Kp0 := R0; have Kq0 := R1; have Km0 := R2; have Kb0 := R3
      obtain ⟨fs0, fs1, fs2, fs3, fs4, fs5, _⟩ := blk6_facts Ks0.out
      have ls : w.heap.size < wr.heap.size := Ks0.out.lt
      obtain ⟨fp0, fp1, fp2⟩ := blk3_facts Kp0.out
      have lp : w3.heap.size < wr.heap.size := Kp0.out.lt
      go_wp2_with fail
      refine (again_c key a0 b0 a1 b1 a2 b2 p0 p1 p2 x0 x1 x2 x3 x4 x5 0 _ HX.out EL.out).mono ?_; rintro e y1 ⟨rfl, hb⟩
      have Ks1 := Lib.hid (Ks0.out.below hb Ks0.out.lt)
      have Kn1 := Lib.hid (Kn0.out.below hb Kn0.out.lt)
      have Kp1 := Lib.hid (Kp0.out.below hb Kp0.out.lt)
      have Kq1 := Lib.hid (Kq0.out.below hb Kq0.out.lt)
      have Km1 := Lib.hid (Km0.out.below hb Km0.out.lt)
      have Kb1 := Lib.hid (Kb0.out.below hb Kb0.out.lt)
      have y1h := Lib.hid (bel_trans y0h.out hb); clear hb fs0 fs1 fs2 fs3 fs4 fs5 ls fp0 fp1 fp2 lp
      obtain ⟨fq0, fq1, fq2⟩ := blk3_facts Kq1.out
      have lq : w3.heap.size + 1 < y1.heap.size := Kq1.out.lt
      go_wp2_with fail
      refine (again_c key x0 x1 x2 x3 x4 x5 q0 q1 q2 z0 z1 z2 z3 z4 z5 0 _ HY.out EX.out).mono ?_; rintro e y2 ⟨rfl, hb⟩
      have Ks2 := Lib.hid (Blk.below2 Ks1.out hb)
      have Kn2 := Lib.hid (Blk.below2 Kn1.out hb)
      have Kp2 := Lib.hid (Blk.below2 Kp1.out hb)
      have Kq2 := Lib.hid (Blk.below2 Kq1.out hb)
      have Km2 := Lib.hid (Blk.below2 Km1.out hb)
      have Kb2 := Lib.hid (Blk.below2 Kb1.out hb)
      have Kx2 : Hid (Blk y2 y1.heap.size #[.int .i64 x0, .int .i64 x1, .int .i64 x2, .int .i64 x3, .int .i64 x4, .int .i64 x5] 34) := Lib.hid (Blk.new2 hb)
      have y2h := Lib.hid (bel_trans2 y1h.out hb); clear hb fq0 fq1 fq2 lq
      obtain ⟨fs0, fs1, fs2, fs3, fs4, fs5, _⟩ := blk6_facts Ks2.out
      have ls : w.heap.size < y2.heap.size := Ks2.out.lt
      obtain ⟨fm0, fm1, fm2⟩ := blk3_facts Km2.out
      have lm : w3.heap.size + 1 + 1 < y2.heap.size := Km2.out.lt
      go_wp2_with fail
      refine (again_c key a0 b0 a1 b1 a2 b2 (p0 + q0) (p1 + q1) (p2 + q2) z0 z1 z2 z3 z4 z5 0 _ HZ.out EL.out).mono ?_; rintro e y3 ⟨rfl, hb⟩
      have Ks3 := Lib.hid (Blk.below2 Ks2.out hb)
      have Kn3 := Lib.hid (Blk.below2 Kn2.out hb)
      have Kp3 := Lib.hid (Blk.below2 Kp2.out hb)
      have Kq3 := Lib.hid (Blk.below2 Kq2.out hb)
      have Km3 := Lib.hid (Blk.below2 Km2.out hb)
      have Kb3 := Lib.hid (Blk.below2 Kb2.out hb)
      have Kx3 := Lib.hid (Blk.below2 Kx2.out hb)
      have Ky3 : Hid (Blk y3 y2.heap.size #[.int .i64 z0, .int .i64 z1, .int .i64 z2, .int .i64 z3, .int .i64 z4, .int .i64 z5] 34) := Lib.hid (Blk.new2 hb)
      have y3h := Lib.hid (bel_trans2 y2h.out hb); clear hb fs0 fs1 fs2 fs3 fs4 fs5 ls fm0 fm1 fm2 lm
      obtain ⟨fs0, fs1, fs2, fs3, fs4, fs5, _⟩ := blk6_facts Ks3.out
      have ls : w.heap.size < y3.heap.size := Ks3.out.lt
      obtain ⟨fq0, fq1, fq2⟩ := blk3_facts Kq3.out
      have lq : w3.heap.size + 1 < y3.heap.size := Kq3.out.lt
      go_wp2_with fail
      refine (again_c key a0 b0 a1 b1 a2 b2 q0 q1 q2 u0 u1 u2 u3 u4 u5 0 _ HU.out EL.out).mono ?_; rintro e y4 ⟨rfl, hb⟩
      have Ks4 := Lib.hid (Blk.below2 Ks3.out hb)
      have Kn4 := Lib.hid (Blk.below2 Kn3.out hb)
      have Kp4 := Lib.hid (Blk.below2 Kp3.out hb)
      have Kq4 := Lib.hid (Blk.below2 Kq3.out hb)
      have Km4 := Lib.hid (Blk.below2 Km3.out hb)
      have Kb4 := Lib.hid (Blk.below2 Kb3.out hb)
      have Kx4 := Lib.hid (Blk.below2 Kx3.out hb)
      have Ky4 := Lib.hid (Blk.below2 Ky3.out hb)
      have Kz4 : Hid (Blk y4 y3.heap.size #[.int .i64 z0, .int .i64 z1, .int .i64 z2, .int .i64 z3, .int .i64 z4, .int .i64 z5] 34) := Lib.hid (Blk.new2 hb)
      have y4h := Lib.hid (bel_trans2 y3h.out hb); clear hb fs0 fs1 fs2 fs3 fs4 fs5 ls fq0 fq1 fq2 lq
      obtain ⟨fp0, fp1, fp2⟩ := blk3_facts Kp4.out
      have lp : w3.heap.size < y4.heap.size := Kp4.out.lt
      go_wp2_with fail
      refine (again_c key u0 u1 u2 u3 u4 u5 p0 p1 p2 z0 z1 z2 z3 z4 z5 0 _ HV.out EU.out).mono ?_; rintro e y5 ⟨rfl, hb⟩
      have Ks5 := Lib.hid (Blk.below2 Ks4.out hb)
      have Kn5 := Lib.hid (Blk.below2 Kn4.out hb)
      have Kp5 := Lib.hid (Blk.below2 Kp4.out hb)
      have Kq5 := Lib.hid (Blk.below2 Kq4.out hb)
      have Km5 := Lib.hid (Blk.below2 Km4.out hb)
      have Kb5 := Lib.hid (Blk.below2 Kb4.out hb)
      have Kx5 := Lib.hid (Blk.below2 Kx4.out hb)
      have Ky5 := Lib.hid (Blk.below2 Ky4.out hb)
      have Kz5 := Lib.hid (Blk.below2 Kz4.out hb)
      have y5h := Lib.hid (bel_trans2 y4h.out hb); clear hb fp0 fp1 fp2 lp
      obtain ⟨fx0, fx1, fx2, fx3, fx4, fx5, _⟩ := blk6_facts Kx5.out
      have lx : y1.heap.size < y5.heap.size := Kx5.out.lt
      obtain ⟨fb0, fb1, fb2⟩ := blk3_facts Kb5.out
      have lb : w3.heap.size + 1 + 1 + 1 < y5.heap.size := Kb5.out.lt
      go_wp2_with fail
      refine (again_c key x0 x1 x2 x3 x4 x5 (-p0) (-p1) (-p2) a0 b0 a1 b1 a2 b2 0 _ HD.out EX.out).mono ?_; rintro e y6 ⟨rfl, hb⟩
      have Ks6 := Lib.hid (Blk.below2 Ks5.out hb)
      have Kn6 := Lib.hid (Blk.below2 Kn5.out hb)
      have Kp6 := Lib.hid (Blk.below2 Kp5.out hb)
      have Kq6 := Lib.hid (Blk.below2 Kq5.out hb)
      have Km6 := Lib.hid (Blk.below2 Km5.out hb)
      have Ky6 := Lib.hid (Blk.below2 Ky5.out hb)
      have Kz6 := Lib.hid (Blk.below2 Kz5.out hb)
      have Kv6 : Hid (Blk y6 y5.heap.size #[.int .i64 z0, .int .i64 z1, .int .i64 z2, .int .i64 z3, .int .i64 z4, .int .i64 z5] 34) := Lib.hid (Blk.new2 hb)
      have y6h := Lib.hid (bel_trans2 y5h.out hb); clear hb fx0 fx1 fx2 fx3 fx4 fx5 lx fb0 fb1 fb2 lb
      obtain ⟨fn0, fn1, fn2⟩ := blk3_facts Kn6.out
      have ln : w.heap.size + 1 < y6.heap.size := Kn6.out.lt
      obtain ⟨fp0, fp1, fp2⟩ := blk3_facts Kp6.out
      have lp : w3.heap.size < y6.heap.size := Kp6.out.lt
      go_wp2_with fail
      refine (seal_c key n0 n1 n2 p0 p1 p2 c0 c1 c2 c3 c4 c5 0 _ HCC.out ES.out).mono ?_; rintro e y7 ⟨rfl, hb⟩
      have Ks7 := Lib.hid (Blk.below2 Ks6.out hb)
      have Kn7 := Lib.hid (Blk.below2 Kn6.out hb)
      have Kq7 := Lib.hid (Blk.below2 Kq6.out hb)
      have Km7 := Lib.hid (Blk.below2 Km6.out hb)
      have Ky7 := Lib.hid (Blk.below2 Ky6.out hb)
      have Kz7 := Lib.hid (Blk.below2 Kz6.out hb)
      have Kv7 := Lib.hid (Blk.below2 Kv6.out hb)
      have Kd7 : Hid (Blk y7 y6.heap.size #[.int .i64 a0, .int .i64 b0, .int .i64 a1, .int .i64 b1, .int .i64 a2, .int .i64 b2] 34) := Lib.hid (Blk.new2 hb)
      have y7h := Lib.hid (bel_trans2 y6h.out hb); clear hb fn0 fn1 fn2 ln fp0 fp1 fp2 lp
      obtain ⟨fq0, fq1, fq2⟩ := blk3_facts Kq7.out
      have lq : w3.heap.size + 1 < y7.heap.size := Kq7.out.lt
      go_wp2_with fail
      refine (again_c key c0 c1 c2 c3 c4 c5 q0 q1 q2 t0 t1 t2 t3 t4 t5 0 _ HE.out EC.out).mono ?_; rintro e y8 ⟨rfl, hb⟩
      have Ks8 := Lib.hid (Blk.below2 Ks7.out hb)
      have Kn8 := Lib.hid (Blk.below2 Kn7.out hb)
      have Km8 := Lib.hid (Blk.below2 Km7.out hb)
      have Ky8 := Lib.hid (Blk.below2 Ky7.out hb)
      have Kz8 := Lib.hid (Blk.below2 Kz7.out hb)
      have Kv8 := Lib.hid (Blk.below2 Kv7.out hb)
      have Kd8 := Lib.hid (Blk.below2 Kd7.out hb)
      have y8h := Lib.hid (bel_trans2 y7h.out hb); clear hb fq0 fq1 fq2 lq
      obtain ⟨fn0, fn1, fn2⟩ := blk3_facts Kn8.out
      have ln : w.heap.size + 1 < y8.heap.size := Kn8.out.lt
      obtain ⟨fm0, fm1, fm2⟩ := blk3_facts Km8.out
      have lm : w3.heap.size + 1 + 1 < y8.heap.size := Km8.out.lt
      go_wp2_with fail
      refine (seal_c key n0 n1 n2 (p0 + q0) (p1 + q1) (p2 + q2) t0 t1 t2 t3 t4 t5 0 _ HT.out ES.out).mono ?_; rintro e y9 ⟨rfl, hb⟩
      have Ks9 := Lib.hid (Blk.below2 Ks8.out hb)
      have Ky9 := Lib.hid (Blk.below2 Ky8.out hb)
      have Kz9 := Lib.hid (Blk.below2 Kz8.out hb)
      have Kv9 := Lib.hid (Blk.below2 Kv8.out hb)
      have Kd9 := Lib.hid (Blk.below2 Kd8.out hb)
      have Ke9 : Hid (Blk y9 y8.heap.size #[.int .i64 t0, .int .i64 t1, .int .i64 t2, .int .i64 t3, .int .i64 t4, .int .i64 t5] 34) := Lib.hid (Blk.new2 hb)
      have y9h := Lib.hid (bel_trans2 y8h.out hb); clear hb fn0 fn1 fn2 ln fm0 fm1 fm2 lm
      obtain ⟨fy0, fy1, fy2, fy3, fy4, fy5, _⟩ := blk6_facts Ky9.out
      have ly : y2.heap.size < y9.heap.size := Ky9.out.lt
      obtain ⟨fz0, fz1, fz2, fz3, fz4, fz5, _⟩ := blk6_facts Kz9.out
      have lz : y3.heap.size < y9.heap.size := Kz9.out.lt
      obtain ⟨fv0, fv1, fv2, fv3, fv4, fv5, _⟩ := blk6_facts Kv9.out
      have lv : y5.heap.size < y9.heap.size := Kv9.out.lt
      obtain ⟨fd0, fd1, fd2, fd3, fd4, fd5, _⟩ := blk6_facts Kd9.out
      have ld : y6.heap.size < y9.heap.size := Kd9.out.lt
      obtain ⟨fs0, fs1, fs2, fs3, fs4, fs5, _⟩ := blk6_facts Ks9.out
      have ls : w.heap.size < y9.heap.size := Ks9.out.lt
      obtain ⟨fe0, fe1, fe2, fe3, fe4, fe5, _⟩ := blk6_facts Ke9.out
      have le : y8.heap.size < y9.heap.size := Ke9.out.lt
      go_wp2_with fail
      go_loop [156] (fun i => ∃ k : Nat, k ≤ 9 ∧ i = .int .i64 k) (fun i => 9 - (intOf i).toNat)
      case atStart => exact ⟨0, by omega, rfl⟩
      case round =>
        obtain ⟨k, hk, rfl⟩ := hrel
        obtain rfl | rfl | rfl | rfl | rfl | rfl | rfl | rfl | rfl | rfl : k = 0 ∨ k = 1 ∨ k = 2 ∨ k = 3 ∨ k = 4 ∨ k = 5 ∨ k = 6 ∨ k = 7 ∨ k = 8 ∨ k = 9 := by omega
        · go_wp2_with fail
          go_round
          case rel => exact ⟨0 + 1, by omega, rfl⟩
          case measure => simp [intOf]
        · go_wp2_with fail
          go_round
          case rel => exact ⟨1 + 1, by omega, rfl⟩
          case measure => simp [intOf]
        · go_wp2_with fail
          go_round
          case rel => exact ⟨2 + 1, by omega, rfl⟩
          case measure => simp [intOf]
        · go_wp2_with fail
          go_round
          case rel => exact ⟨3 + 1, by omega, rfl⟩
          case measure => simp [intOf]
        · go_wp2_with fail
          go_round
          case rel => exact ⟨4 + 1, by omega, rfl⟩
          case measure => simp [intOf]
        · go_wp2_with fail
          go_round
          case rel => exact ⟨5 + 1, by omega, rfl⟩
          case measure => simp [intOf]
        · go_wp2_with fail
          go_round
          case rel => exact ⟨6 + 1, by omega, rfl⟩
          case measure => simp [intOf]
        · go_wp2_with fail
          go_round
          case rel => exact ⟨7 + 1, by omega, rfl⟩
          case measure => simp [intOf]
        · go_wp2_with fail
          go_round
          case rel => exact ⟨8 + 1, by omega, rfl⟩
          case measure => simp [intOf]
        · go_wp2_with fail
          go_ret
          exact ⟨rfl, (y9h.out.alloc y9h.out.size _).alloc (by have := y9h.out.size; simp; omega) _⟩

namespace elgamalTwice
theorem readable : ∀ t ∈ Try.f7.params.toList, Try.prog.readableRec t = true ∧ t < Try.prog.types.size := by
  rw [Try.params7]
  intro t ht
  simp only [List.mem_cons, List.not_mem_nil, or_false] at ht
  rcases ht with rfl | rfl | rfl | rfl | rfl
  all_goals exact ⟨by kernel_rfl, by decide +kernel⟩

set_option maxRecDepth 100000 in
theorem lifted (os : Os) (started : os.Started) (H : Type) (enc : TypeId × Value → H) :
    ReturnsInHanded {} Try.checked os 7 .any (Rows.elgamalTwiceSpec.pre6 enc Try.prog Try.f7 Rows.elgamalTwiceRow.domain false) (Rows.elgamalTwiceSpec.post enc Try.prog Try.f7 false true false false) := by
  refine returnsInHanded_of_change (C := Try.checked) own_knob started (by kernel_rfl) Try.func7
    (ChangeSpec.witness6 (enc := enc) (C := Try.checked) false ⟨#[], #[.int .i64 0, .agg #[.int .i64 0, .int .i64 0, .int .i64 0, .int .i64 0, .int .i64 0, .int .i64 0], .agg #[.int .i64 0, .int .i64 0, .int .i64 0], .agg #[.int .i32 0, .int .i32 0, .int .i32 0], .agg #[.int .i32 0, .int .i32 0, .int .i32 0]], []⟩ 8 (by kernel_rfl) (by kernel_rfl) (by kernel_rfl) (by kernel_rfl)) ?_
  intro W base args ds gs before hval0 hW hcnd _
  have hval : ∀ (j : Nat) t v, Try.f7.params[j]? = some t → args[j]? = some v → Value.okWide Try.prog W .any base t v := hval0
  have hW' := hW
  obtain ⟨p, q, hA0, hV, rfl, hfz, hnd⟩ := hW
  have hA : DataW.TrodAll enc Try.prog W 0 (fun _ => true) true Try.f7.params.toList args.toList ds p := hA0
  rw [Try.params7] at hA hval
  obtain ⟨v0, vs0, d0, ds0, p0, q0, hargs, rfl, rfl, h0, r0⟩ := trodAll_cons hA
  obtain ⟨v1, vs1, d1, ds1, p1, q1, rfl, rfl, rfl, h1, r1⟩ := trodAll_cons r0
  obtain ⟨v2, vs2, d2, ds2, p2, q2, rfl, rfl, rfl, h2, r2⟩ := trodAll_cons r1
  obtain ⟨v3, vs3, d3, ds3, p3, q3, rfl, rfl, rfl, h3, r3⟩ := trodAll_cons r2
  obtain ⟨v4, vs4, d4, ds4, p4, q4, rfl, rfl, rfl, h4, r4⟩ := trodAll_cons r3
  obtain ⟨rfl, rfl, rfl⟩ := trodAll_nil r4
  obtain rfl : args = #[v0, v1, v2, v3, v4] := by cases args; simp_all
  obtain ⟨rfl, rfl⟩ := trodVars_none hV
  obtain ⟨a0, rfl, rfl, rfl, w0⟩ := open_int Try.underlying3 (hval 0 3 v0 rfl rfl) h0
  obtain ⟨a1, b1, c1, e1, f1, g1, rfl⟩ := open_arr32 (k := .i64) Try.underlying34 Try.underlying32 (by kernel_rfl) (by kernel_rfl) (by kernel_rfl) (by kernel_rfl) (by kernel_rfl) (hval 1 34 v1 rfl rfl) h1
  obtain ⟨a2, b2, c2, rfl, wa2, wb2, wc2⟩ := open_arr3 Try.underlying30 Try.underlying3 (by kernel_rfl) (by kernel_rfl) (hval 2 30 v2 rfl rfl) h2
  obtain ⟨a3, b3, c3, rfl, wa3, wb3, wc3⟩ := open_arr3 Try.underlying51 Try.underlying21 (by kernel_rfl) (by kernel_rfl) (hval 3 51 v3 rfl rfl) h3
  obtain ⟨a4, b4, c4, rfl, wa4, wb4, wc4⟩ := open_arr3 Try.underlying51 Try.underlying21 (by kernel_rfl) (by kernel_rfl) (hval 4 51 v4 rfl rfl) h4
  clear hA0 hval0
  refine (elgamalTwice_walk a0 a1 b1 c1 e1 f1 g1 a2 b2 c2 a3 b3 c3 a4 b4 c4 W w0 wa2 wb2 wc2 wa3 wb3 wc3 wa4 wb4 wc4).mono fun e W' ⟨he, hb⟩ => ?_
  subst he
  exact ⟨_, rfl, law_post laid_out readable rfl rfl Try.underlying4 hW' rfl rfl rfl hb⟩

theorem over : Rows.elgamalTwiceRow.holds Try.pinned (OpenSpec.ofChange Rows.elgamalTwiceSpec) :=
  OpenClaim.holds_of_wide 7 Try.f7 rfl rfl rfl rfl rfl rfl rfl ⟨rfl, rfl, rfl, rfl, rfl⟩ rfl rfl rfl rfl rfl (by kernel_rfl) Try.func7 (by kernel_rfl)
    (of_decide_eq_true (by kernel_rfl)) (by unfold Func.isWrapper; first | (rw [if_pos (by decide +kernel)]; kernel_rfl) | (rw [if_neg (by decide +kernel)]; exact ⟨rfl, rfl⟩))
    (fun os started H enc _ => lifted os started H enc)

/-- the statement -/
theorem proved : Rows.ElgamalTwiceSaid := over
end elgamalTwice
end Go.Proofs.Ytbmeljkdemdloaa
