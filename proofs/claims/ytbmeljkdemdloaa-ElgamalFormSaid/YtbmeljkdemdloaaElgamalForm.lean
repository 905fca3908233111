/- A letter is in form exactly if its six numbers are elements. No condition. -/
import Derived.Test.YtbmeljkdemdloaaElgForm0
namespace Go.Proofs.Ytbmeljkdemdloaa
open Go.ChangeShapes Go.WideShapes Go.ChangeAt Go.RowKit Go.Shelf
set_option linter.unusedVariables false

set_option maxRecDepth 100000 in
set_option maxHeartbeats 4000000 in
theorem elgamalForm_walk (key sec a0 b0 a1 b1 a2 b2 r0 r1 r2 : Int) (w : World) (_ : (Lit.int .i64 key).wf = true) (_ : (Lit.int .i64 sec).wf = true) (_ : (Lit.int .i64 r0).wf = true) (_ : (Lit.int .i64 r1).wf = true) (_ : (Lit.int .i64 r2).wf = true) :
    Calls Try.prog 9 #[.int .i64 key, .int .i64 sec, sealedV a0 b0 a1 b1 a2 b2, .agg #[.int .i64 r0, .int .i64 r1, .int .i64 r2]] w fun e w' => e = .returned (.bool true) ∧ Below w.heap.size w w' := by
  go_enter Try.func9, Try.ntmps9
  go_wp2_with fail
  refine (sane10_any _).mono ?_; rintro e w1 ⟨rfl, hb1⟩
  have KS1 : Hid (Blk w1 w.heap.size #[.int .i64 a0, .int .i64 b0, .int .i64 a1, .int .i64 b1, .int .i64 a2, .int .i64 b2] 34) := Lib.hid (((Blk.new w _ _).alloc _).below hb1 (by simp; omega))
  have KR1 : Hid (Blk w1 (w.heap.size + 1) #[.int .i64 r0, .int .i64 r1, .int .i64 r2] 29) := by
    refine Lib.hid (Blk.below ?_ hb1 (by simp))
    have h := Blk.new (w.alloc (.cells #[.int .i64 a0, .int .i64 b0, .int .i64 a1, .int .i64 b1, .int .i64 a2, .int .i64 b2] 34)) #[.int .i64 r0, .int .i64 r1, .int .i64 r2] 29
    rw [World.size_alloc] at h; exact h
  have h1 : Hid (Below w.heap.size w w1) := Lib.hid ((((Below.refl w.heap.size w).alloc (Nat.le_refl _) _).alloc (by simp) _).trans (hb1.mono (by simp; omega))); clear hb1
  obtain ⟨s0, s1, s2, s3, s4, s5, _⟩ := blk6_facts KS1.out
  obtain ⟨t0, t1, t2⟩ := blk3_facts KR1.out
  have l1 : w.heap.size + 1 < w1.heap.size := KR1.out.lt
  go_wp2_with fail
  go_loopw [9, 25] (fun f i wr => ∃ k : Nat, k ≤ 3 ∧ i = .int .i64 k ∧ ∃ v : Bool, f = .bool v ∧ Hid (v = ((six a0 b0 a1 b1 a2 b2).take k).all okC) ∧ Hid (Below w1.heap.size w1 wr)) (fun _ i _ => 3 - (intOf i).toNat)
  case atStart => exact ⟨0, by omega, rfl, true, rfl, rfl, Below.refl _ _⟩
  case round =>
    obtain ⟨k, hk, rfl, v, rfl, hv, hB⟩ := hrel
    obtain hk3 | rfl : (k = 0 ∨ k = 1 ∨ k = 2) ∨ k = 3 := by omega
    · rcases hk3 with rfl | rfl | rfl
      · have HT : Hid (((six a0 b0 a1 b1 a2 b2).take (0 + 1)).all okC = (((six a0 b0 a1 b1 a2 b2).take 0).all okC && (elB a0 && elB b0))) := Lib.hid (take3 a0 b0 a1 b1 a2 b2 0 (by simp))
        cases v with
        | false =>
          go_wp2_with fail
          go_roundw
          case rel => exact ⟨0 + 1, by omega, rfl, _, rfl, by rw [HT.out, ← hv.out]; rfl, hB.out.alloc hB.out.size _⟩
          case measure => simp [intOf]
        | true =>
          cases hx : elB a0 with
          | false =>
            have HX := Lib.hid hx; clear hx
            go_wp2_with fail
            refine (valid_any _ _).mono ?_; rintro e w' ⟨rfl, rfl⟩; rw [HX.out]
            go_wp2_with fail
            go_roundw
            case rel => exact ⟨0 + 1, by omega, rfl, _, rfl, by rw [HT.out, ← hv.out, HX.out]; rfl, hB.out.alloc hB.out.size _⟩
            case measure => simp [intOf]
          | true =>
            have HX := Lib.hid hx; clear hx
            go_wp2_with fail
            refine (valid_any _ _).mono ?_; rintro e w' ⟨rfl, rfl⟩; rw [HX.out]
            go_wp2_with fail
            refine (valid_any _ _).mono ?_; rintro e w' ⟨rfl, rfl⟩
            go_wp2_with fail
            go_roundw
            case rel => exact ⟨0 + 1, by omega, rfl, _, rfl, by rw [HT.out, ← hv.out, HX.out]; rfl, hB.out.alloc hB.out.size _⟩
            case measure => simp [intOf]
      · have HT : Hid (((six a0 b0 a1 b1 a2 b2).take (1 + 1)).all okC = (((six a0 b0 a1 b1 a2 b2).take 1).all okC && (elB a1 && elB b1))) := Lib.hid (take3 a0 b0 a1 b1 a2 b2 1 (by simp))
        cases v with
        | false =>
          go_wp2_with fail
          go_roundw
          case rel => exact ⟨1 + 1, by omega, rfl, _, rfl, by rw [HT.out, ← hv.out]; rfl, hB.out.alloc hB.out.size _⟩
          case measure => simp [intOf]
        | true =>
          cases hx : elB a1 with
          | false =>
            have HX := Lib.hid hx; clear hx
            go_wp2_with fail
            refine (valid_any _ _).mono ?_; rintro e w' ⟨rfl, rfl⟩; rw [HX.out]
            go_wp2_with fail
            go_roundw
            case rel => exact ⟨1 + 1, by omega, rfl, _, rfl, by rw [HT.out, ← hv.out, HX.out]; rfl, hB.out.alloc hB.out.size _⟩
            case measure => simp [intOf]
          | true =>
            have HX := Lib.hid hx; clear hx
            go_wp2_with fail
            refine (valid_any _ _).mono ?_; rintro e w' ⟨rfl, rfl⟩; rw [HX.out]
            go_wp2_with fail
            refine (valid_any _ _).mono ?_; rintro e w' ⟨rfl, rfl⟩
            go_wp2_with fail
            go_roundw
            case rel => exact ⟨1 + 1, by omega, rfl, _, rfl, by rw [HT.out, ← hv.out, HX.out]; rfl, hB.out.alloc hB.out.size _⟩
            case measure => simp [intOf]
      · have HT : Hid (((six a0 b0 a1 b1 a2 b2).take (2 + 1)).all okC = (((six a0 b0 a1 b1 a2 b2).take 2).all okC && (elB a2 && elB b2))) := Lib.hid (take3 a0 b0 a1 b1 a2 b2 2 (by simp))
        cases v with
        | false =>
          go_wp2_with fail
          go_roundw
          case rel => exact ⟨2 + 1, by omega, rfl, _, rfl, by rw [HT.out, ← hv.out]; rfl, hB.out.alloc hB.out.size _⟩
          case measure => simp [intOf]
        | true =>
          cases hx : elB a2 with
          | false =>
            have HX := Lib.hid hx; clear hx
            go_wp2_with fail
            refine (valid_any _ _).mono ?_; rintro e w' ⟨rfl, rfl⟩; rw [HX.out]
            go_wp2_with fail
            go_roundw
            case rel => exact ⟨2 + 1, by omega, rfl, _, rfl, by rw [HT.out, ← hv.out, HX.out]; rfl, hB.out.alloc hB.out.size _⟩
            case measure => simp [intOf]
          | true =>
            have HX := Lib.hid hx; clear hx
            go_wp2_with fail
            refine (valid_any _ _).mono ?_; rintro e w' ⟨rfl, rfl⟩; rw [HX.out]
            go_wp2_with fail
            refine (valid_any _ _).mono ?_; rintro e w' ⟨rfl, rfl⟩
            go_wp2_with fail
            go_roundw
            case rel => exact ⟨2 + 1, by omega, rfl, _, rfl, by rw [HT.out, ← hv.out, HX.out]; rfl, hB.out.alloc hB.out.size _⟩
            case measure => simp [intOf]
    · have hBw := Lib.hid (bel_trans h1.out hB.out)
      have KS : Hid (Blk _ w.heap.size #[.int .i64 a0, .int .i64 b0, .int .i64 a1, .int .i64 b1, .int .i64 a2, .int .i64 b2] 34) := Lib.hid (KS1.out.below hB.out KS1.out.lt)
      have KR : Hid (Blk _ (w.heap.size + 1) #[.int .i64 r0, .int .i64 r1, .int .i64 r2] 29) := Lib.hid (KR1.out.below hB.out KR1.out.lt)
      clear s0 s1 s2 s3 s4 s5 t0 t1 t2
      obtain ⟨s0, s1, s2, s3, s4, s5, _⟩ := blk6_facts KS.out
      have hvc : v = chkB a0 b0 a1 b1 a2 b2 := hv.out
      cases v with
      | false =>
        have HC := Lib.hid (show chkE a0 b0 a1 b1 a2 b2 = 100 by unfold chkE; rw [← hvc]; rfl)
        obtain ⟨ea, HAE, na, na'⟩ : ∃ ea : Int, Hid (againE key ((a0, b0), (a1, b1), (a2, b2)) = ea) ∧ (ea == 0) = false ∧ (0 == ea) = false := by
          cases hk : elB key with
          | true => exact ⟨100, by unfold againE; rw [hk, if_pos rfl]; exact HC.out, rfl, rfl⟩
          | false => exact ⟨90, by unfold againE; rw [hk]; rfl, rfl, rfl⟩
        obtain ⟨es, HBE, ns, ns'⟩ : ∃ es : Int, Hid (stripE sec ((a0, b0), (a1, b1), (a2, b2)) = es) ∧ (es == 0) = false ∧ (0 == es) = false := by
          cases hk : secB sec with
          | true => exact ⟨100, by unfold stripE; rw [hk, if_pos rfl]; exact HC.out, rfl, rfl⟩
          | false => exact ⟨110, by unfold stripE; rw [hk]; rfl, rfl, rfl⟩
        have hne : ¬ chkE a0 b0 a1 b1 a2 b2 = 0 := by rw [HC.out]; omega
        have HA := Lib.hid (show againR key r0 r1 r2 ((a0, b0), (a1, b1), (a2, b2)) = ((0, 0), (0, 0), (0, 0)) by unfold againR; cases elB key <;> simp [hne, zeroL])
        have HB := Lib.hid (show stripR sec ((a0, b0), (a1, b1), (a2, b2)) = ((0, 0), (0, 0), (0, 0)) by unfold stripR; cases secB sec <;> simp [hne, zeroL])
        have HRE := Lib.hid (show readE ((a0, b0), (a1, b1), (a2, b2)) = 100 from HC.out)
        have HR := Lib.hid (show readR ((a0, b0), (a1, b1), (a2, b2)) = (0, 0, 0) by unfold readR; rw [if_neg (by rw [HRE.out]; omega)])
        clear hne hvc hv
        go_wp2_with fail
        refine (check_c a0 b0 a1 b1 a2 b2 100 _ HC.out).mono ?_; rintro e w2 ⟨rfl, hb2⟩
        have KS2 : Hid (Blk w2 w.heap.size #[.int .i64 a0, .int .i64 b0, .int .i64 a1, .int .i64 b1, .int .i64 a2, .int .i64 b2] 34) := Lib.hid (KS.out.below hb2 KS.out.lt)
        have KR2 : Hid (Blk w2 (w.heap.size + 1) #[.int .i64 r0, .int .i64 r1, .int .i64 r2] 29) := Lib.hid (KR.out.below hb2 KR.out.lt)
        have h2 := Lib.hid (bel_trans hBw.out hb2); clear hb2 s0 s1 s2 s3 s4 s5
        obtain ⟨s0, s1, s2, s3, s4, s5, _⟩ := blk6_facts KS2.out
        obtain ⟨t0, t1, t2⟩ := blk3_facts KR2.out
        have l2 : w.heap.size + 1 < w2.heap.size := KR2.out.lt
        go_wp2_with fail
        refine (again_c key a0 b0 a1 b1 a2 b2 r0 r1 r2 0 0 0 0 0 0 ea _ HA.out HAE.out).mono ?_; rintro e w3 ⟨rfl, hb3⟩
        have KS3 : Hid (Blk w3 w.heap.size #[.int .i64 a0, .int .i64 b0, .int .i64 a1, .int .i64 b1, .int .i64 a2, .int .i64 b2] 34) := Lib.hid (KS2.out.below hb3 KS2.out.lt)
        have h3 := Lib.hid (bel_trans h2.out hb3); clear hb3 s0 s1 s2 s3 s4 s5 t0 t1 t2
        obtain ⟨s0, s1, s2, s3, s4, s5, _⟩ := blk6_facts KS3.out
        have l3 : w.heap.size < w3.heap.size := KS3.out.lt
        go_wp2_with fail
        refine (strip_c sec a0 b0 a1 b1 a2 b2 0 0 0 0 0 0 es _ HB.out HBE.out).mono ?_; rintro e w4 ⟨rfl, hb4⟩
        have KX4 : Hid (Blk w4 w3.heap.size #[.int .i64 0, .int .i64 0, .int .i64 0, .int .i64 0, .int .i64 0, .int .i64 0] 34) := Lib.hid ((Blk.new w3 _ _).below hb4 (by simp))
        have KS4 : Hid (Blk w4 w.heap.size #[.int .i64 a0, .int .i64 b0, .int .i64 a1, .int .i64 b1, .int .i64 a2, .int .i64 b2] 34) := Lib.hid ((KS3.out.alloc _).below hb4 (by simp; omega))
        have h4 := Lib.hid ((h3.out.alloc h3.out.size (.cells #[.int .i64 0, .int .i64 0, .int .i64 0, .int .i64 0, .int .i64 0, .int .i64 0] 34)).trans (hb4.mono (by have := h3.out.size; simp; omega))); clear hb4 s0 s1 s2 s3 s4 s5
        obtain ⟨s0, s1, s2, s3, s4, s5, _⟩ := blk6_facts KS4.out
        have l4 : w.heap.size < w4.heap.size := KS4.out.lt
        have l4x : w3.heap.size < w4.heap.size := KX4.out.lt
        go_wp2_with fail
        refine (read_c a0 b0 a1 b1 a2 b2 0 0 0 100 _ HR.out HRE.out).mono ?_; rintro e w5 ⟨rfl, hb5⟩
        have KY5 : Hid (Blk w5 w4.heap.size #[.int .i64 0, .int .i64 0, .int .i64 0, .int .i64 0, .int .i64 0, .int .i64 0] 34) := Lib.hid ((Blk.new w4 _ _).below hb5 (by simp))
        have KX5 : Hid (Blk w5 w3.heap.size #[.int .i64 0, .int .i64 0, .int .i64 0, .int .i64 0, .int .i64 0, .int .i64 0] 34) := Lib.hid ((KX4.out.alloc _).below hb5 (by simp; omega))
        have KS5 : Hid (Blk w5 w.heap.size #[.int .i64 a0, .int .i64 b0, .int .i64 a1, .int .i64 b1, .int .i64 a2, .int .i64 b2] 34) := Lib.hid ((KS4.out.alloc _).below hb5 (by simp; omega))
        have h5 := Lib.hid ((h4.out.alloc h4.out.size (.cells #[.int .i64 0, .int .i64 0, .int .i64 0, .int .i64 0, .int .i64 0, .int .i64 0] 34)).trans (hb5.mono (by have := h4.out.size; simp; omega))); clear hb5 s0 s1 s2 s3 s4 s5
        have l5 : w.heap.size < w5.heap.size := KS5.out.lt
        have l5x : w3.heap.size < w5.heap.size := KX5.out.lt
        have l5y : w4.heap.size < w5.heap.size := KY5.out.lt
        obtain ⟨s0, s1, s2, s3, s4, s5, _⟩ := blk6_facts KS5.out
        go_wp2_with fail
        go_ret
        exact ⟨rfl, h5.out.alloc h5.out.size _⟩
      | true =>
        obtain ⟨q0, q1, q2, q3, q4, q5⟩ := chk_six hvc.symm
        have hc1 : chkE a0 b0 a1 b1 a2 b2 = 0 := by unfold chkE; rw [← hvc]; rfl
        have HC := Lib.hid hc1
        have HRE := Lib.hid (show readE ((a0, b0), (a1, b1), (a2, b2)) = 0 from hc1)
        have HR := Lib.hid (show readR ((a0, b0), (a1, b1), (a2, b2)) = (numZ b0, numZ b1, numZ b2) by unfold readR; rw [if_pos HRE.out])
        have HN0 := Lib.hid (elm_num q1).2
        have HN1 := Lib.hid (elm_num q3).2
        have HN2 := Lib.hid (elm_num q5).2
        have HM0 := Lib.hid (show elmE (numZ b0) = 0 by unfold elmE; rw [if_pos (elm_num q1).1])
        have HM1 := Lib.hid (show elmE (numZ b1) = 0 by unfold elmE; rw [if_pos (elm_num q3).1])
        have HM2 := Lib.hid (show elmE (numZ b2) = 0 by unfold elmE; rw [if_pos (elm_num q5).1])
        generalize numZ b0 = z0 at HR HN0 HM0
        generalize numZ b1 = z1 at HR HN1 HM1
        generalize numZ b2 = z2 at HR HN2 HM2
        have hvB : Hid (chkB a0 b0 a1 b1 a2 b2 = true) := Lib.hid hvc.symm
        clear q0 q1 q2 q3 q4 q5 hv hvc
        cases hk : elB key with
        | true =>
          cases hs : secB sec with
          | true =>
            have HAE := Lib.hid (show againE key ((a0, b0), (a1, b1), (a2, b2)) = 0 by unfold againE; rw [hk, if_pos rfl]; exact HC.out)
            obtain ⟨⟨⟨xa, xb⟩, ⟨xc, xd⟩, ⟨xe, xf⟩⟩, hL⟩ : ∃ L, againR key r0 r1 r2 ((a0, b0), (a1, b1), (a2, b2)) = L := ⟨_, rfl⟩
            have HCX := Lib.hid (again_form key r0 r1 r2 _ hk hvB.out _ hL)
            have HA := Lib.hid hL; clear hL
            have HBE := Lib.hid (show stripE sec ((a0, b0), (a1, b1), (a2, b2)) = 0 by unfold stripE; rw [hs, if_pos rfl]; exact HC.out)
            obtain ⟨⟨⟨ya, yb⟩, ⟨yc, yd⟩, ⟨ye, yf⟩⟩, hL⟩ : ∃ L, stripR sec ((a0, b0), (a1, b1), (a2, b2)) = L := ⟨_, rfl⟩
            have HCY := Lib.hid (strip_form sec _ hs hvB.out _ hL)
            have HB := Lib.hid hL; clear hL
            clear hk hs hc1
            go_wp2_with fail
            refine (check_c a0 b0 a1 b1 a2 b2 0 _ HC.out).mono ?_; rintro e w2 ⟨rfl, hb2⟩
            have KS2 : Hid (Blk w2 w.heap.size #[.int .i64 a0, .int .i64 b0, .int .i64 a1, .int .i64 b1, .int .i64 a2, .int .i64 b2] 34) := Lib.hid (KS.out.below hb2 KS.out.lt)
            have KR2 : Hid (Blk w2 (w.heap.size + 1) #[.int .i64 r0, .int .i64 r1, .int .i64 r2] 29) := Lib.hid (KR.out.below hb2 KR.out.lt)
            have h2 := Lib.hid (bel_trans hBw.out hb2); clear hb2 s0 s1 s2 s3 s4 s5
            obtain ⟨s0, s1, s2, s3, s4, s5, _⟩ := blk6_facts KS2.out
            obtain ⟨t0, t1, t2⟩ := blk3_facts KR2.out
            have l2 : w.heap.size + 1 < w2.heap.size := KR2.out.lt
            go_wp2_with fail
            refine (again_c key a0 b0 a1 b1 a2 b2 r0 r1 r2 xa xb xc xd xe xf 0 _ HA.out HAE.out).mono ?_; rintro e w3 ⟨rfl, hb3⟩
            have KS3 : Hid (Blk w3 w.heap.size #[.int .i64 a0, .int .i64 b0, .int .i64 a1, .int .i64 b1, .int .i64 a2, .int .i64 b2] 34) := Lib.hid (KS2.out.below hb3 KS2.out.lt)
            have h3 := Lib.hid (bel_trans h2.out hb3); clear hb3 s0 s1 s2 s3 s4 s5 t0 t1 t2
            obtain ⟨s0, s1, s2, s3, s4, s5, _⟩ := blk6_facts KS3.out
            have l3 : w.heap.size < w3.heap.size := KS3.out.lt
            go_wp2_with fail
            refine (strip_c sec a0 b0 a1 b1 a2 b2 ya yb yc yd ye yf 0 _ HB.out HBE.out).mono ?_; rintro e w4 ⟨rfl, hb4⟩
            have KX4 : Hid (Blk w4 w3.heap.size #[.int .i64 xa, .int .i64 xb, .int .i64 xc, .int .i64 xd, .int .i64 xe, .int .i64 xf] 34) := Lib.hid ((Blk.new w3 _ _).below hb4 (by simp))
            have KS4 : Hid (Blk w4 w.heap.size #[.int .i64 a0, .int .i64 b0, .int .i64 a1, .int .i64 b1, .int .i64 a2, .int .i64 b2] 34) := Lib.hid ((KS3.out.alloc _).below hb4 (by simp; omega))
            have h4 := Lib.hid ((h3.out.alloc h3.out.size (.cells #[.int .i64 xa, .int .i64 xb, .int .i64 xc, .int .i64 xd, .int .i64 xe, .int .i64 xf] 34)).trans (hb4.mono (by have := h3.out.size; simp; omega))); clear hb4 s0 s1 s2 s3 s4 s5
            obtain ⟨s0, s1, s2, s3, s4, s5, _⟩ := blk6_facts KS4.out
            have l4 : w.heap.size < w4.heap.size := KS4.out.lt
            have l4x : w3.heap.size < w4.heap.size := KX4.out.lt
            go_wp2_with fail
            refine (read_c a0 b0 a1 b1 a2 b2 z0 z1 z2 0 _ HR.out HRE.out).mono ?_; rintro e w5 ⟨rfl, hb5⟩
            have KY5 : Hid (Blk w5 w4.heap.size #[.int .i64 ya, .int .i64 yb, .int .i64 yc, .int .i64 yd, .int .i64 ye, .int .i64 yf] 34) := Lib.hid ((Blk.new w4 _ _).below hb5 (by simp))
            have KX5 : Hid (Blk w5 w3.heap.size #[.int .i64 xa, .int .i64 xb, .int .i64 xc, .int .i64 xd, .int .i64 xe, .int .i64 xf] 34) := Lib.hid ((KX4.out.alloc _).below hb5 (by simp; omega))
            have KS5 : Hid (Blk w5 w.heap.size #[.int .i64 a0, .int .i64 b0, .int .i64 a1, .int .i64 b1, .int .i64 a2, .int .i64 b2] 34) := Lib.hid ((KS4.out.alloc _).below hb5 (by simp; omega))
            have h5 := Lib.hid ((h4.out.alloc h4.out.size (.cells #[.int .i64 ya, .int .i64 yb, .int .i64 yc, .int .i64 yd, .int .i64 ye, .int .i64 yf] 34)).trans (hb5.mono (by have := h4.out.size; simp; omega))); clear hb5 s0 s1 s2 s3 s4 s5
            have l5 : w.heap.size < w5.heap.size := KS5.out.lt
            have l5x : w3.heap.size < w5.heap.size := KX5.out.lt
            have l5y : w4.heap.size < w5.heap.size := KY5.out.lt
            obtain ⟨x0, x1, x2, x3, x4, x5, _⟩ := blk6_facts KX5.out
            obtain ⟨y0, y1, y2, y3, y4, y5, _⟩ := blk6_facts KY5.out
            go_wp2_with fail
            have KW : Hid (Blk (w5.alloc (.cells #[.int .i64 z0, .int .i64 z1, .int .i64 z2] 30)) w5.heap.size #[.int .i64 z0, .int .i64 z1, .int .i64 z2] 30) := Lib.hid (Blk.new w5 _ _)
            have KSc : Hid (Blk (w5.alloc (.cells #[.int .i64 z0, .int .i64 z1, .int .i64 z2] 30)) w.heap.size #[.int .i64 a0, .int .i64 b0, .int .i64 a1, .int .i64 b1, .int .i64 a2, .int .i64 b2] 34) := Lib.hid (KS5.out.alloc _)
            have KYc : Hid (Blk (w5.alloc (.cells #[.int .i64 z0, .int .i64 z1, .int .i64 z2] 30)) w4.heap.size #[.int .i64 ya, .int .i64 yb, .int .i64 yc, .int .i64 yd, .int .i64 ye, .int .i64 yf] 34) := Lib.hid (KY5.out.alloc _)
            have hc := Lib.hid (h5.out.alloc h5.out.size (.cells #[.int .i64 z0, .int .i64 z1, .int .i64 z2] 30))
            clear x0 x1 x2 x3 x4 x5 y0 y1 y2 y3 y4 y5
            refine (check_c xa xb xc xd xe xf 0 _ HCX.out).mono ?_; rintro e w6 ⟨rfl, hb6⟩
            have KW6 : Hid (Blk w6 w5.heap.size #[.int .i64 z0, .int .i64 z1, .int .i64 z2] 30) := Lib.hid (KW.out.below hb6 KW.out.lt)
            have KS6 : Hid (Blk w6 w.heap.size #[.int .i64 a0, .int .i64 b0, .int .i64 a1, .int .i64 b1, .int .i64 a2, .int .i64 b2] 34) := Lib.hid (KSc.out.below hb6 KSc.out.lt)
            have KY6 : Hid (Blk w6 w4.heap.size #[.int .i64 ya, .int .i64 yb, .int .i64 yc, .int .i64 yd, .int .i64 ye, .int .i64 yf] 34) := Lib.hid (KYc.out.below hb6 KYc.out.lt)
            have h6 := Lib.hid (bel_trans hc.out hb6); clear hb6
            have lw6 : w5.heap.size < w6.heap.size := KW6.out.lt
            have ly6 : w4.heap.size < w6.heap.size := KY6.out.lt
            obtain ⟨y0, y1, y2, y3, y4, y5, _⟩ := blk6_facts KY6.out
            obtain ⟨n0, n1, n2⟩ := blk3_facts KW6.out
            go_wp2_with fail
            clear y0 y1 y2 y3 y4 y5
            refine (check_c ya yb yc yd ye yf 0 _ HCY.out).mono ?_; rintro e w7 ⟨rfl, hb7⟩
            have KW7 : Hid (Blk w7 w5.heap.size #[.int .i64 z0, .int .i64 z1, .int .i64 z2] 30) := Lib.hid (KW6.out.below hb7 KW6.out.lt)
            have KS7 : Hid (Blk w7 w.heap.size #[.int .i64 a0, .int .i64 b0, .int .i64 a1, .int .i64 b1, .int .i64 a2, .int .i64 b2] 34) := Lib.hid (KS6.out.below hb7 KS6.out.lt)
            have KY7 : Hid (Blk w7 w4.heap.size #[.int .i64 ya, .int .i64 yb, .int .i64 yc, .int .i64 yd, .int .i64 ye, .int .i64 yf] 34) := Lib.hid (KY6.out.below hb7 KY6.out.lt)
            have h7 := Lib.hid (bel_trans h6.out hb7); clear hb7
            have lw7 : w5.heap.size < w7.heap.size := KW7.out.lt
            have ly7 : w4.heap.size < w7.heap.size := KY7.out.lt
            obtain ⟨y0, y1, y2, y3, y4, y5, _⟩ := blk6_facts KY7.out
            obtain ⟨n0, n1, n2⟩ := blk3_facts KW7.out
            go_wp2_with fail
            go_loopw [99] (fun i wr => ∃ k : Nat, k ≤ 3 ∧ i = .int .i64 k ∧ Hid (Below w7.heap.size w7 wr)) (fun i _ => 3 - (intOf i).toNat)
            case atStart => exact ⟨0, by omega, rfl, Below.refl _ _⟩
            case round =>
              obtain ⟨k, hk, rfl, hB2⟩ := hrel
              have KSr : Hid (Blk _ w.heap.size #[.int .i64 a0, .int .i64 b0, .int .i64 a1, .int .i64 b1, .int .i64 a2, .int .i64 b2] 34) := Lib.hid (KS7.out.below hB2.out KS7.out.lt)
              obtain ⟨s0, s1, s2, s3, s4, s5, _⟩ := blk6_facts KSr.out
              obtain rfl | rfl | rfl | rfl : k = 0 ∨ k = 1 ∨ k = 2 ∨ k = 3 := by omega
              · go_wp2_with fail
                refine (elm_c z0 b0 0 _ HN0.out HM0.out).mono ?_; rintro e w' ⟨rfl, rfl⟩
                go_wp2_with fail
                go_roundw
                case rel => exact ⟨0 + 1, by omega, rfl, hB2.out⟩
                case measure => simp [intOf]
              · go_wp2_with fail
                refine (elm_c z1 b1 0 _ HN1.out HM1.out).mono ?_; rintro e w' ⟨rfl, rfl⟩
                go_wp2_with fail
                go_roundw
                case rel => exact ⟨1 + 1, by omega, rfl, hB2.out⟩
                case measure => simp [intOf]
              · go_wp2_with fail
                refine (elm_c z2 b2 0 _ HN2.out HM2.out).mono ?_; rintro e w' ⟨rfl, rfl⟩
                go_wp2_with fail
                go_roundw
                case rel => exact ⟨2 + 1, by omega, rfl, hB2.out⟩
                case measure => simp [intOf]
              · go_wp2_with fail
                go_ret
                exact ⟨rfl, bel_trans h7.out hB2.out⟩
          | false =>
            have HAE := Lib.hid (show againE key ((a0, b0), (a1, b1), (a2, b2)) = 0 by unfold againE; rw [hk, if_pos rfl]; exact HC.out)
            obtain ⟨⟨⟨xa, xb⟩, ⟨xc, xd⟩, ⟨xe, xf⟩⟩, hL⟩ : ∃ L, againR key r0 r1 r2 ((a0, b0), (a1, b1), (a2, b2)) = L := ⟨_, rfl⟩
            have HCX := Lib.hid (again_form key r0 r1 r2 _ hk hvB.out _ hL)
            have HA := Lib.hid hL; clear hL
            have HBE := Lib.hid (show stripE sec ((a0, b0), (a1, b1), (a2, b2)) = 110 by unfold stripE; rw [hs]; rfl)
            have HB := Lib.hid (show stripR sec ((a0, b0), (a1, b1), (a2, b2)) = ((0, 0), (0, 0), (0, 0)) by unfold stripR; rw [hs]; rfl)
            clear hk hs hc1
            go_wp2_with fail
            refine (check_c a0 b0 a1 b1 a2 b2 0 _ HC.out).mono ?_; rintro e w2 ⟨rfl, hb2⟩
            have KS2 : Hid (Blk w2 w.heap.size #[.int .i64 a0, .int .i64 b0, .int .i64 a1, .int .i64 b1, .int .i64 a2, .int .i64 b2] 34) := Lib.hid (KS.out.below hb2 KS.out.lt)
            have KR2 : Hid (Blk w2 (w.heap.size + 1) #[.int .i64 r0, .int .i64 r1, .int .i64 r2] 29) := Lib.hid (KR.out.below hb2 KR.out.lt)
            have h2 := Lib.hid (bel_trans hBw.out hb2); clear hb2 s0 s1 s2 s3 s4 s5
            obtain ⟨s0, s1, s2, s3, s4, s5, _⟩ := blk6_facts KS2.out
            obtain ⟨t0, t1, t2⟩ := blk3_facts KR2.out
            have l2 : w.heap.size + 1 < w2.heap.size := KR2.out.lt
            go_wp2_with fail
            refine (again_c key a0 b0 a1 b1 a2 b2 r0 r1 r2 xa xb xc xd xe xf 0 _ HA.out HAE.out).mono ?_; rintro e w3 ⟨rfl, hb3⟩
            have KS3 : Hid (Blk w3 w.heap.size #[.int .i64 a0, .int .i64 b0, .int .i64 a1, .int .i64 b1, .int .i64 a2, .int .i64 b2] 34) := Lib.hid (KS2.out.below hb3 KS2.out.lt)
            have h3 := Lib.hid (bel_trans h2.out hb3); clear hb3 s0 s1 s2 s3 s4 s5 t0 t1 t2
            obtain ⟨s0, s1, s2, s3, s4, s5, _⟩ := blk6_facts KS3.out
            have l3 : w.heap.size < w3.heap.size := KS3.out.lt
            go_wp2_with fail
            refine (strip_c sec a0 b0 a1 b1 a2 b2 0 0 0 0 0 0 110 _ HB.out HBE.out).mono ?_; rintro e w4 ⟨rfl, hb4⟩
            have KX4 : Hid (Blk w4 w3.heap.size #[.int .i64 xa, .int .i64 xb, .int .i64 xc, .int .i64 xd, .int .i64 xe, .int .i64 xf] 34) := Lib.hid ((Blk.new w3 _ _).below hb4 (by simp))
            have KS4 : Hid (Blk w4 w.heap.size #[.int .i64 a0, .int .i64 b0, .int .i64 a1, .int .i64 b1, .int .i64 a2, .int .i64 b2] 34) := Lib.hid ((KS3.out.alloc _).below hb4 (by simp; omega))
            have h4 := Lib.hid ((h3.out.alloc h3.out.size (.cells #[.int .i64 xa, .int .i64 xb, .int .i64 xc, .int .i64 xd, .int .i64 xe, .int .i64 xf] 34)).trans (hb4.mono (by have := h3.out.size; simp; omega))); clear hb4 s0 s1 s2 s3 s4 s5
            obtain ⟨s0, s1, s2, s3, s4, s5, _⟩ := blk6_facts KS4.out
            have l4 : w.heap.size < w4.heap.size := KS4.out.lt
            have l4x : w3.heap.size < w4.heap.size := KX4.out.lt
            go_wp2_with fail
            refine (read_c a0 b0 a1 b1 a2 b2 z0 z1 z2 0 _ HR.out HRE.out).mono ?_; rintro e w5 ⟨rfl, hb5⟩
            have KY5 : Hid (Blk w5 w4.heap.size #[.int .i64 0, .int .i64 0, .int .i64 0, .int .i64 0, .int .i64 0, .int .i64 0] 34) := Lib.hid ((Blk.new w4 _ _).below hb5 (by simp))
            have KX5 : Hid (Blk w5 w3.heap.size #[.int .i64 xa, .int .i64 xb, .int .i64 xc, .int .i64 xd, .int .i64 xe, .int .i64 xf] 34) := Lib.hid ((KX4.out.alloc _).below hb5 (by simp; omega))
            have KS5 : Hid (Blk w5 w.heap.size #[.int .i64 a0, .int .i64 b0, .int .i64 a1, .int .i64 b1, .int .i64 a2, .int .i64 b2] 34) := Lib.hid ((KS4.out.alloc _).below hb5 (by simp; omega))
            have h5 := Lib.hid ((h4.out.alloc h4.out.size (.cells #[.int .i64 0, .int .i64 0, .int .i64 0, .int .i64 0, .int .i64 0, .int .i64 0] 34)).trans (hb5.mono (by have := h4.out.size; simp; omega))); clear hb5 s0 s1 s2 s3 s4 s5
            have l5 : w.heap.size < w5.heap.size := KS5.out.lt
            have l5x : w3.heap.size < w5.heap.size := KX5.out.lt
            have l5y : w4.heap.size < w5.heap.size := KY5.out.lt
            obtain ⟨x0, x1, x2, x3, x4, x5, _⟩ := blk6_facts KX5.out
            obtain ⟨y0, y1, y2, y3, y4, y5, _⟩ := blk6_facts KY5.out
            go_wp2_with fail
            have KW : Hid (Blk (w5.alloc (.cells #[.int .i64 z0, .int .i64 z1, .int .i64 z2] 30)) w5.heap.size #[.int .i64 z0, .int .i64 z1, .int .i64 z2] 30) := Lib.hid (Blk.new w5 _ _)
            have KSc : Hid (Blk (w5.alloc (.cells #[.int .i64 z0, .int .i64 z1, .int .i64 z2] 30)) w.heap.size #[.int .i64 a0, .int .i64 b0, .int .i64 a1, .int .i64 b1, .int .i64 a2, .int .i64 b2] 34) := Lib.hid (KS5.out.alloc _)
            have KYc : Hid (Blk (w5.alloc (.cells #[.int .i64 z0, .int .i64 z1, .int .i64 z2] 30)) w4.heap.size #[.int .i64 0, .int .i64 0, .int .i64 0, .int .i64 0, .int .i64 0, .int .i64 0] 34) := Lib.hid (KY5.out.alloc _)
            have hc := Lib.hid (h5.out.alloc h5.out.size (.cells #[.int .i64 z0, .int .i64 z1, .int .i64 z2] 30))
            clear x0 x1 x2 x3 x4 x5 y0 y1 y2 y3 y4 y5
            refine (check_c xa xb xc xd xe xf 0 _ HCX.out).mono ?_; rintro e w6 ⟨rfl, hb6⟩
            have KW6 : Hid (Blk w6 w5.heap.size #[.int .i64 z0, .int .i64 z1, .int .i64 z2] 30) := Lib.hid (KW.out.below hb6 KW.out.lt)
            have KS6 : Hid (Blk w6 w.heap.size #[.int .i64 a0, .int .i64 b0, .int .i64 a1, .int .i64 b1, .int .i64 a2, .int .i64 b2] 34) := Lib.hid (KSc.out.below hb6 KSc.out.lt)
            have KY6 : Hid (Blk w6 w4.heap.size #[.int .i64 0, .int .i64 0, .int .i64 0, .int .i64 0, .int .i64 0, .int .i64 0] 34) := Lib.hid (KYc.out.below hb6 KYc.out.lt)
            have h6 := Lib.hid (bel_trans hc.out hb6); clear hb6
            have lw6 : w5.heap.size < w6.heap.size := KW6.out.lt
            have ly6 : w4.heap.size < w6.heap.size := KY6.out.lt
            obtain ⟨y0, y1, y2, y3, y4, y5, _⟩ := blk6_facts KY6.out
            obtain ⟨n0, n1, n2⟩ := blk3_facts KW6.out
            go_wp2_with fail
            go_loopw [99] (fun i wr => ∃ k : Nat, k ≤ 3 ∧ i = .int .i64 k ∧ Hid (Below w6.heap.size w6 wr)) (fun i _ => 3 - (intOf i).toNat)
            case atStart => exact ⟨0, by omega, rfl, Below.refl _ _⟩
            case round =>
              obtain ⟨k, hk, rfl, hB2⟩ := hrel
              have KSr : Hid (Blk _ w.heap.size #[.int .i64 a0, .int .i64 b0, .int .i64 a1, .int .i64 b1, .int .i64 a2, .int .i64 b2] 34) := Lib.hid (KS6.out.below hB2.out KS6.out.lt)
              obtain ⟨s0, s1, s2, s3, s4, s5, _⟩ := blk6_facts KSr.out
              obtain rfl | rfl | rfl | rfl : k = 0 ∨ k = 1 ∨ k = 2 ∨ k = 3 := by omega
              · go_wp2_with fail
                refine (elm_c z0 b0 0 _ HN0.out HM0.out).mono ?_; rintro e w' ⟨rfl, rfl⟩
                go_wp2_with fail
                go_roundw
                case rel => exact ⟨0 + 1, by omega, rfl, hB2.out⟩
                case measure => simp [intOf]
              · go_wp2_with fail
                refine (elm_c z1 b1 0 _ HN1.out HM1.out).mono ?_; rintro e w' ⟨rfl, rfl⟩
                go_wp2_with fail
                go_roundw
                case rel => exact ⟨1 + 1, by omega, rfl, hB2.out⟩
                case measure => simp [intOf]
              · go_wp2_with fail
                refine (elm_c z2 b2 0 _ HN2.out HM2.out).mono ?_; rintro e w' ⟨rfl, rfl⟩
                go_wp2_with fail
                go_roundw
                case rel => exact ⟨2 + 1, by omega, rfl, hB2.out⟩
                case measure => simp [intOf]
              · go_wp2_with fail
                go_ret
                exact ⟨rfl, bel_trans h6.out hB2.out⟩
        | false =>
          cases hs : secB sec with
          | true =>
            have HAE := Lib.hid (show againE key ((a0, b0), (a1, b1), (a2, b2)) = 90 by unfold againE; rw [hk]; rfl)
            have HA := Lib.hid (show againR key r0 r1 r2 ((a0, b0), (a1, b1), (a2, b2)) = ((0, 0), (0, 0), (0, 0)) by unfold againR; rw [hk]; rfl)
            have HBE := Lib.hid (show stripE sec ((a0, b0), (a1, b1), (a2, b2)) = 0 by unfold stripE; rw [hs, if_pos rfl]; exact HC.out)
            obtain ⟨⟨⟨ya, yb⟩, ⟨yc, yd⟩, ⟨ye, yf⟩⟩, hL⟩ : ∃ L, stripR sec ((a0, b0), (a1, b1), (a2, b2)) = L := ⟨_, rfl⟩
            have HCY := Lib.hid (strip_form sec _ hs hvB.out _ hL)
            have HB := Lib.hid hL; clear hL
            clear hk hs hc1
            go_wp2_with fail
            refine (check_c a0 b0 a1 b1 a2 b2 0 _ HC.out).mono ?_; rintro e w2 ⟨rfl, hb2⟩
            have KS2 : Hid (Blk w2 w.heap.size #[.int .i64 a0, .int .i64 b0, .int .i64 a1, .int .i64 b1, .int .i64 a2, .int .i64 b2] 34) := Lib.hid (KS.out.below hb2 KS.out.lt)
            have KR2 : Hid (Blk w2 (w.heap.size + 1) #[.int .i64 r0, .int .i64 r1, .int .i64 r2] 29) := Lib.hid (KR.out.below hb2 KR.out.lt)
            have h2 := Lib.hid (bel_trans hBw.out hb2); clear hb2 s0 s1 s2 s3 s4 s5
            obtain ⟨s0, s1, s2, s3, s4, s5, _⟩ := blk6_facts KS2.out
            obtain ⟨t0, t1, t2⟩ := blk3_facts KR2.out
            have l2 : w.heap.size + 1 < w2.heap.size := KR2.out.lt
            go_wp2_with fail
            refine (again_c key a0 b0 a1 b1 a2 b2 r0 r1 r2 0 0 0 0 0 0 90 _ HA.out HAE.out).mono ?_; rintro e w3 ⟨rfl, hb3⟩
            have KS3 : Hid (Blk w3 w.heap.size #[.int .i64 a0, .int .i64 b0, .int .i64 a1, .int .i64 b1, .int .i64 a2, .int .i64 b2] 34) := Lib.hid (KS2.out.below hb3 KS2.out.lt)
            have h3 := Lib.hid (bel_trans h2.out hb3); clear hb3 s0 s1 s2 s3 s4 s5 t0 t1 t2
            obtain ⟨s0, s1, s2, s3, s4, s5, _⟩ := blk6_facts KS3.out
            have l3 : w.heap.size < w3.heap.size := KS3.out.lt
            go_wp2_with fail
            refine (strip_c sec a0 b0 a1 b1 a2 b2 ya yb yc yd ye yf 0 _ HB.out HBE.out).mono ?_; rintro e w4 ⟨rfl, hb4⟩
            have KX4 : Hid (Blk w4 w3.heap.size #[.int .i64 0, .int .i64 0, .int .i64 0, .int .i64 0, .int .i64 0, .int .i64 0] 34) := Lib.hid ((Blk.new w3 _ _).below hb4 (by simp))
            have KS4 : Hid (Blk w4 w.heap.size #[.int .i64 a0, .int .i64 b0, .int .i64 a1, .int .i64 b1, .int .i64 a2, .int .i64 b2] 34) := Lib.hid ((KS3.out.alloc _).below hb4 (by simp; omega))
            have h4 := Lib.hid ((h3.out.alloc h3.out.size (.cells #[.int .i64 0, .int .i64 0, .int .i64 0, .int .i64 0, .int .i64 0, .int .i64 0] 34)).trans (hb4.mono (by have := h3.out.size; simp; omega))); clear hb4 s0 s1 s2 s3 s4 s5
            obtain ⟨s0, s1, s2, s3, s4, s5, _⟩ := blk6_facts KS4.out
            have l4 : w.heap.size < w4.heap.size := KS4.out.lt
            have l4x : w3.heap.size < w4.heap.size := KX4.out.lt
            go_wp2_with fail
            refine (read_c a0 b0 a1 b1 a2 b2 z0 z1 z2 0 _ HR.out HRE.out).mono ?_; rintro e w5 ⟨rfl, hb5⟩
            have KY5 : Hid (Blk w5 w4.heap.size #[.int .i64 ya, .int .i64 yb, .int .i64 yc, .int .i64 yd, .int .i64 ye, .int .i64 yf] 34) := Lib.hid ((Blk.new w4 _ _).below hb5 (by simp))
            have KX5 : Hid (Blk w5 w3.heap.size #[.int .i64 0, .int .i64 0, .int .i64 0, .int .i64 0, .int .i64 0, .int .i64 0] 34) := Lib.hid ((KX4.out.alloc _).below hb5 (by simp; omega))
            have KS5 : Hid (Blk w5 w.heap.size #[.int .i64 a0, .int .i64 b0, .int .i64 a1, .int .i64 b1, .int .i64 a2, .int .i64 b2] 34) := Lib.hid ((KS4.out.alloc _).below hb5 (by simp; omega))
            have h5 := Lib.hid ((h4.out.alloc h4.out.size (.cells #[.int .i64 ya, .int .i64 yb, .int .i64 yc, .int .i64 yd, .int .i64 ye, .int .i64 yf] 34)).trans (hb5.mono (by have := h4.out.size; simp; omega))); clear hb5 s0 s1 s2 s3 s4 s5
            have l5 : w.heap.size < w5.heap.size := KS5.out.lt
            have l5x : w3.heap.size < w5.heap.size := KX5.out.lt
            have l5y : w4.heap.size < w5.heap.size := KY5.out.lt
            obtain ⟨x0, x1, x2, x3, x4, x5, _⟩ := blk6_facts KX5.out
            obtain ⟨y0, y1, y2, y3, y4, y5, _⟩ := blk6_facts KY5.out
            go_wp2_with fail
            have KW : Hid (Blk (w5.alloc (.cells #[.int .i64 z0, .int .i64 z1, .int .i64 z2] 30)) w5.heap.size #[.int .i64 z0, .int .i64 z1, .int .i64 z2] 30) := Lib.hid (Blk.new w5 _ _)
            have KSc : Hid (Blk (w5.alloc (.cells #[.int .i64 z0, .int .i64 z1, .int .i64 z2] 30)) w.heap.size #[.int .i64 a0, .int .i64 b0, .int .i64 a1, .int .i64 b1, .int .i64 a2, .int .i64 b2] 34) := Lib.hid (KS5.out.alloc _)
            have KYc : Hid (Blk (w5.alloc (.cells #[.int .i64 z0, .int .i64 z1, .int .i64 z2] 30)) w4.heap.size #[.int .i64 ya, .int .i64 yb, .int .i64 yc, .int .i64 yd, .int .i64 ye, .int .i64 yf] 34) := Lib.hid (KY5.out.alloc _)
            have hc := Lib.hid (h5.out.alloc h5.out.size (.cells #[.int .i64 z0, .int .i64 z1, .int .i64 z2] 30))
            clear x0 x1 x2 x3 x4 x5 y0 y1 y2 y3 y4 y5
            refine (check_c ya yb yc yd ye yf 0 _ HCY.out).mono ?_; rintro e w6 ⟨rfl, hb6⟩
            have KW6 : Hid (Blk w6 w5.heap.size #[.int .i64 z0, .int .i64 z1, .int .i64 z2] 30) := Lib.hid (KW.out.below hb6 KW.out.lt)
            have KS6 : Hid (Blk w6 w.heap.size #[.int .i64 a0, .int .i64 b0, .int .i64 a1, .int .i64 b1, .int .i64 a2, .int .i64 b2] 34) := Lib.hid (KSc.out.below hb6 KSc.out.lt)
            have KY6 : Hid (Blk w6 w4.heap.size #[.int .i64 ya, .int .i64 yb, .int .i64 yc, .int .i64 yd, .int .i64 ye, .int .i64 yf] 34) := Lib.hid (KYc.out.below hb6 KYc.out.lt)
            have h6 := Lib.hid (bel_trans hc.out hb6); clear hb6
            have lw6 : w5.heap.size < w6.heap.size := KW6.out.lt
            have ly6 : w4.heap.size < w6.heap.size := KY6.out.lt
            obtain ⟨y0, y1, y2, y3, y4, y5, _⟩ := blk6_facts KY6.out
            obtain ⟨n0, n1, n2⟩ := blk3_facts KW6.out
            go_wp2_with fail
            go_loopw [99] (fun i wr => ∃ k : Nat, k ≤ 3 ∧ i = .int .i64 k ∧ Hid (Below w6.heap.size w6 wr)) (fun i _ => 3 - (intOf i).toNat)
            case atStart => exact ⟨0, by omega, rfl, Below.refl _ _⟩
            case round =>
              obtain ⟨k, hk, rfl, hB2⟩ := hrel
              have KSr : Hid (Blk _ w.heap.size #[.int .i64 a0, .int .i64 b0, .int .i64 a1, .int .i64 b1, .int .i64 a2, .int .i64 b2] 34) := Lib.hid (KS6.out.below hB2.out KS6.out.lt)
              obtain ⟨s0, s1, s2, s3, s4, s5, _⟩ := blk6_facts KSr.out
              obtain rfl | rfl | rfl | rfl : k = 0 ∨ k = 1 ∨ k = 2 ∨ k = 3 := by omega
              · go_wp2_with fail
                refine (elm_c z0 b0 0 _ HN0.out HM0.out).mono ?_; rintro e w' ⟨rfl, rfl⟩
                go_wp2_with fail
                go_roundw
                case rel => exact ⟨0 + 1, by omega, rfl, hB2.out⟩
                case measure => simp [intOf]
              · go_wp2_with fail
                refine (elm_c z1 b1 0 _ HN1.out HM1.out).mono ?_; rintro e w' ⟨rfl, rfl⟩
                go_wp2_with fail
                go_roundw
                case rel => exact ⟨1 + 1, by omega, rfl, hB2.out⟩
                case measure => simp [intOf]
              · go_wp2_with fail
                refine (elm_c z2 b2 0 _ HN2.out HM2.out).mono ?_; rintro e w' ⟨rfl, rfl⟩
                go_wp2_with fail
                go_roundw
                case rel => exact ⟨2 + 1, by omega, rfl, hB2.out⟩
                case measure => simp [intOf]
              · go_wp2_with fail
                go_ret
                exact ⟨rfl, bel_trans h6.out hB2.out⟩
          | false =>
            have HAE := Lib.hid (show againE key ((a0, b0), (a1, b1), (a2, b2)) = 90 by unfold againE; rw [hk]; rfl)
            have HA := Lib.hid (show againR key r0 r1 r2 ((a0, b0), (a1, b1), (a2, b2)) = ((0, 0), (0, 0), (0, 0)) by unfold againR; rw [hk]; rfl)
            have HBE := Lib.hid (show stripE sec ((a0, b0), (a1, b1), (a2, b2)) = 110 by unfold stripE; rw [hs]; rfl)
            have HB := Lib.hid (show stripR sec ((a0, b0), (a1, b1), (a2, b2)) = ((0, 0), (0, 0), (0, 0)) by unfold stripR; rw [hs]; rfl)
            clear hk hs hc1
            go_wp2_with fail
            refine (check_c a0 b0 a1 b1 a2 b2 0 _ HC.out).mono ?_; rintro e w2 ⟨rfl, hb2⟩
            have KS2 : Hid (Blk w2 w.heap.size #[.int .i64 a0, .int .i64 b0, .int .i64 a1, .int .i64 b1, .int .i64 a2, .int .i64 b2] 34) := Lib.hid (KS.out.below hb2 KS.out.lt)
            have KR2 : Hid (Blk w2 (w.heap.size + 1) #[.int .i64 r0, .int .i64 r1, .int .i64 r2] 29) := Lib.hid (KR.out.below hb2 KR.out.lt)
            have h2 := Lib.hid (bel_trans hBw.out hb2); clear hb2 s0 s1 s2 s3 s4 s5
            obtain ⟨s0, s1, s2, s3, s4, s5, _⟩ := blk6_facts KS2.out
            obtain ⟨t0, t1, t2⟩ := blk3_facts KR2.out
            have l2 : w.heap.size + 1 < w2.heap.size := KR2.out.lt
            go_wp2_with fail
            refine (again_c key a0 b0 a1 b1 a2 b2 r0 r1 r2 0 0 0 0 0 0 90 _ HA.out HAE.out).mono ?_; rintro e w3 ⟨rfl, hb3⟩
            have KS3 : Hid (Blk w3 w.heap.size #[.int .i64 a0, .int .i64 b0, .int .i64 a1, .int .i64 b1, .int .i64 a2, .int .i64 b2] 34) := Lib.hid (KS2.out.below hb3 KS2.out.lt)
            have h3 := Lib.hid (bel_trans h2.out hb3); clear hb3 s0 s1 s2 s3 s4 s5 t0 t1 t2
            obtain ⟨s0, s1, s2, s3, s4, s5, _⟩ := blk6_facts KS3.out
            have l3 : w.heap.size < w3.heap.size := KS3.out.lt
            go_wp2_with fail
            refine (strip_c sec a0 b0 a1 b1 a2 b2 0 0 0 0 0 0 110 _ HB.out HBE.out).mono ?_; rintro e w4 ⟨rfl, hb4⟩
            have KX4 : Hid (Blk w4 w3.heap.size #[.int .i64 0, .int .i64 0, .int .i64 0, .int .i64 0, .int .i64 0, .int .i64 0] 34) := Lib.hid ((Blk.new w3 _ _).below hb4 (by simp))
            have KS4 : Hid (Blk w4 w.heap.size #[.int .i64 a0, .int .i64 b0, .int .i64 a1, .int .i64 b1, .int .i64 a2, .int .i64 b2] 34) := Lib.hid ((KS3.out.alloc _).below hb4 (by simp; omega))
            have h4 := Lib.hid ((h3.out.alloc h3.out.size (.cells #[.int .i64 0, .int .i64 0, .int .i64 0, .int .i64 0, .int .i64 0, .int .i64 0] 34)).trans (hb4.mono (by have := h3.out.size; simp; omega))); clear hb4 s0 s1 s2 s3 s4 s5
            obtain ⟨s0, s1, s2, s3, s4, s5, _⟩ := blk6_facts KS4.out
            have l4 : w.heap.size < w4.heap.size := KS4.out.lt
            have l4x : w3.heap.size < w4.heap.size := KX4.out.lt
            go_wp2_with fail
            refine (read_c a0 b0 a1 b1 a2 b2 z0 z1 z2 0 _ HR.out HRE.out).mono ?_; rintro e w5 ⟨rfl, hb5⟩
            have KY5 : Hid (Blk w5 w4.heap.size #[.int .i64 0, .int .i64 0, .int .i64 0, .int .i64 0, .int .i64 0, .int .i64 0] 34) := Lib.hid ((Blk.new w4 _ _).below hb5 (by simp))
            have KX5 : Hid (Blk w5 w3.heap.size #[.int .i64 0, .int .i64 0, .int .i64 0, .int .i64 0, .int .i64 0, .int .i64 0] 34) := Lib.hid ((KX4.out.alloc _).below hb5 (by simp; omega))
            have KS5 : Hid (Blk w5 w.heap.size #[.int .i64 a0, .int .i64 b0, .int .i64 a1, .int .i64 b1, .int .i64 a2, .int .i64 b2] 34) := Lib.hid ((KS4.out.alloc _).below hb5 (by simp; omega))
            have h5 := Lib.hid ((h4.out.alloc h4.out.size (.cells #[.int .i64 0, .int .i64 0, .int .i64 0, .int .i64 0, .int .i64 0, .int .i64 0] 34)).trans (hb5.mono (by have := h4.out.size; simp; omega))); clear hb5 s0 s1 s2 s3 s4 s5
            have l5 : w.heap.size < w5.heap.size := KS5.out.lt
            have l5x : w3.heap.size < w5.heap.size := KX5.out.lt
            have l5y : w4.heap.size < w5.heap.size := KY5.out.lt
            obtain ⟨x0, x1, x2, x3, x4, x5, _⟩ := blk6_facts KX5.out
            obtain ⟨y0, y1, y2, y3, y4, y5, _⟩ := blk6_facts KY5.out
            go_wp2_with fail
            have KW : Hid (Blk (w5.alloc (.cells #[.int .i64 z0, .int .i64 z1, .int .i64 z2] 30)) w5.heap.size #[.int .i64 z0, .int .i64 z1, .int .i64 z2] 30) := Lib.hid (Blk.new w5 _ _)
            have KSc : Hid (Blk (w5.alloc (.cells #[.int .i64 z0, .int .i64 z1, .int .i64 z2] 30)) w.heap.size #[.int .i64 a0, .int .i64 b0, .int .i64 a1, .int .i64 b1, .int .i64 a2, .int .i64 b2] 34) := Lib.hid (KS5.out.alloc _)
            have KYc : Hid (Blk (w5.alloc (.cells #[.int .i64 z0, .int .i64 z1, .int .i64 z2] 30)) w4.heap.size #[.int .i64 0, .int .i64 0, .int .i64 0, .int .i64 0, .int .i64 0, .int .i64 0] 34) := Lib.hid (KY5.out.alloc _)
            have hc := Lib.hid (h5.out.alloc h5.out.size (.cells #[.int .i64 z0, .int .i64 z1, .int .i64 z2] 30))
            go_loopw [99] (fun i wr => ∃ k : Nat, k ≤ 3 ∧ i = .int .i64 k ∧ Hid (Below (w5.alloc (.cells #[.int .i64 z0, .int .i64 z1, .int .i64 z2] 30)).heap.size (w5.alloc (.cells #[.int .i64 z0, .int .i64 z1, .int .i64 z2] 30)) wr)) (fun i _ => 3 - (intOf i).toNat)
            case atStart => exact ⟨0, by omega, rfl, Below.refl _ _⟩
            case round =>
              obtain ⟨k, hk, rfl, hB2⟩ := hrel
              have KSr : Hid (Blk _ w.heap.size #[.int .i64 a0, .int .i64 b0, .int .i64 a1, .int .i64 b1, .int .i64 a2, .int .i64 b2] 34) := Lib.hid (KSc.out.below hB2.out KSc.out.lt)
              obtain ⟨s0, s1, s2, s3, s4, s5, _⟩ := blk6_facts KSr.out
              obtain rfl | rfl | rfl | rfl : k = 0 ∨ k = 1 ∨ k = 2 ∨ k = 3 := by omega
              · go_wp2_with fail
                refine (elm_c z0 b0 0 _ HN0.out HM0.out).mono ?_; rintro e w' ⟨rfl, rfl⟩
                go_wp2_with fail
                go_roundw
                case rel => exact ⟨0 + 1, by omega, rfl, hB2.out⟩
                case measure => simp [intOf]
              · go_wp2_with fail
                refine (elm_c z1 b1 0 _ HN1.out HM1.out).mono ?_; rintro e w' ⟨rfl, rfl⟩
                go_wp2_with fail
                go_roundw
                case rel => exact ⟨1 + 1, by omega, rfl, hB2.out⟩
                case measure => simp [intOf]
              · go_wp2_with fail
                refine (elm_c z2 b2 0 _ HN2.out HM2.out).mono ?_; rintro e w' ⟨rfl, rfl⟩
                go_wp2_with fail
                go_roundw
                case rel => exact ⟨2 + 1, by omega, rfl, hB2.out⟩
                case measure => simp [intOf]
              · go_wp2_with fail
                go_ret
                exact ⟨rfl, bel_trans hc.out hB2.out⟩

namespace elgamalForm
theorem readable : ∀ t ∈ Try.f9.params.toList, Try.prog.readableRec t = true ∧ t < Try.prog.types.size := by
  rw [Try.params9]
  intro t ht
  simp only [List.mem_cons, List.not_mem_nil, or_false] at ht
  rcases ht with rfl | rfl | rfl | rfl
  all_goals exact ⟨by kernel_rfl, by decide +kernel⟩

set_option maxRecDepth 100000 in
theorem lifted (os : Os) (started : os.Started) (H : Type) (enc : TypeId × Value → H) :
    ReturnsInHanded {} Try.checked os 9 .any (Rows.elgamalFormSpec.pre6 enc Try.prog Try.f9 Rows.elgamalFormRow.domain false) (Rows.elgamalFormSpec.post enc Try.prog Try.f9 false true false false) := by
  refine returnsInHanded_of_change (C := Try.checked) own_knob started (by kernel_rfl) Try.func9
    (ChangeSpec.witness6 (enc := enc) (C := Try.checked) false ⟨#[], #[.int .i64 0, .int .i64 0, .agg #[.int .i64 0, .int .i64 0, .int .i64 0, .int .i64 0, .int .i64 0, .int .i64 0], .agg #[.int .i64 0, .int .i64 0, .int .i64 0]], []⟩ 8 (by kernel_rfl) (by kernel_rfl) (by kernel_rfl) (by kernel_rfl)) ?_
  intro W base args ds gs before hval0 hW hcnd _
  have hval : ∀ (j : Nat) t v, Try.f9.params[j]? = some t → args[j]? = some v → Value.okWide Try.prog W .any base t v := hval0
  have hW' := hW
  obtain ⟨p, q, hA0, hV, rfl, hfz, hnd⟩ := hW
  have hA : DataW.TrodAll enc Try.prog W 0 (fun _ => true) true Try.f9.params.toList args.toList ds p := hA0
  rw [Try.params9] at hA hval
  obtain ⟨v0, vs0, d0, ds0, p0, q0, hargs, rfl, rfl, h0, r0⟩ := trodAll_cons hA
  obtain ⟨v1, vs1, d1, ds1, p1, q1, rfl, rfl, rfl, h1, r1⟩ := trodAll_cons r0
  obtain ⟨v2, vs2, d2, ds2, p2, q2, rfl, rfl, rfl, h2, r2⟩ := trodAll_cons r1
  obtain ⟨v3, vs3, d3, ds3, p3, q3, rfl, rfl, rfl, h3, r3⟩ := trodAll_cons r2
  obtain ⟨rfl, rfl, rfl⟩ := trodAll_nil r3
  obtain rfl : args = #[v0, v1, v2, v3] := by cases args; simp_all
  obtain ⟨rfl, rfl⟩ := trodVars_none hV
  obtain ⟨a0, rfl, rfl, rfl, w0⟩ := open_int Try.underlying3 (hval 0 3 v0 rfl rfl) h0
  obtain ⟨a1, rfl, rfl, rfl, w1⟩ := open_int Try.underlying3 (hval 1 3 v1 rfl rfl) h1
  obtain ⟨a2, b2, c2, e2, f2, g2, rfl⟩ := open_arr32 (k := .i64) Try.underlying34 Try.underlying32 (by kernel_rfl) (by kernel_rfl) (by kernel_rfl) (by kernel_rfl) (by kernel_rfl) (hval 2 34 v2 rfl rfl) h2
  obtain ⟨a3, b3, c3, rfl, wa3, wb3, wc3⟩ := open_arr3 Try.underlying29 Try.underlying3 (by kernel_rfl) (by kernel_rfl) (hval 3 29 v3 rfl rfl) h3
  clear hA0 hval0
  refine (elgamalForm_walk a0 a1 a2 b2 c2 e2 f2 g2 a3 b3 c3 W w0 w1 wa3 wb3 wc3).mono fun e W' ⟨he, hb⟩ => ?_
  subst he
  exact ⟨_, rfl, law_post laid_out readable rfl rfl Try.underlying4 hW' rfl rfl rfl hb⟩

theorem over : Rows.elgamalFormRow.holds Try.pinned (OpenSpec.ofChange Rows.elgamalFormSpec) :=
  OpenClaim.holds_of_wide 9 Try.f9 rfl rfl rfl rfl rfl rfl rfl ⟨rfl, rfl, rfl, rfl, rfl⟩ rfl rfl rfl rfl rfl (by kernel_rfl) Try.func9 (by kernel_rfl)
    (of_decide_eq_true (by kernel_rfl)) (by unfold Func.isWrapper; first | (rw [if_pos (by decide +kernel)]; kernel_rfl) | (rw [if_neg (by decide +kernel)]; exact ⟨rfl, rfl⟩))
    (fun os started H enc _ => lifted os started H enc)

/-- the statement -/
theorem proved : Rows.ElgamalFormSaid := over
end elgamalForm
end Go.Proofs.Ytbmeljkdemdloaa
