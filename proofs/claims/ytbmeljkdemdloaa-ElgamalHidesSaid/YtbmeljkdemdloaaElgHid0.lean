/- ElgamalHides at index 0. -/
import Derived.Test.YtbmeljkdemdloaaElgHid
import Derived.BigQuiet
import Derived.BigRegion
namespace Go.Proofs.Ytbmeljkdemdloaa
open Go.RowKit Go.Shelf
set_option linter.unusedVariables false

set_option maxRecDepth 100000 in
set_option maxHeartbeats 4000000 in
theorem hides_walk0 (key n0 n1 n2 p0 p1 p2 o at' : Int) (w : World) (hat0 : 0 ≤ at') (hat1 : at' ≤ 255) (hj : at' % 3 = 0)
    (wp0 : (Lit.int .i32 p0).wf = true) (wp1 : (Lit.int .i32 p1).wf = true) (wp2 : (Lit.int .i32 p2).wf = true) :
    Calls Try.prog 8 #[.int .i64 key, .agg #[.int .i64 n0, .int .i64 n1, .int .i64 n2], .agg #[.int .i32 p0, .int .i32 p1, .int .i32 p2], .int .i64 o, .int .u8 at'] w fun e w' => e = .returned (.bool true) ∧ Below w.heap.size w w' := by
  have bp0 := bounds_i32 wp0; have bp1 := bounds_i32 wp1; have bp2 := bounds_i32 wp2
  clear wp0 wp1 wp2
  go_enter Try.func8, Try.ntmps8
  go_wp2_with fail
  refine (sane10_any _).mono ?_; rintro e w1 ⟨rfl, hb1⟩
  obtain ⟨V, hV⟩ : ∃ V, (w.alloc (.cells #[.int .i64 n0, .int .i64 n1, .int .i64 n2] 30)).alloc (.cells #[.int .i32 p0, .int .i32 p1, .int .i32 p2] 51) = V := ⟨_, rfl⟩
  have kv : Below w.heap.size w V := by rw [← hV]; exact ((Below.refl w.heap.size w).alloc (Nat.le_refl _) _).alloc (by simp) _
  have v : Blks V [(w.heap.size + 1, #[.int .i32 p0, .int .i32 p1, .int .i32 p2], 51), (w.heap.size, #[.int .i64 n0, .int .i64 n1, .int .i64 n2], 30)] := by
    rw [← hV]; have h := ((Blks.nil w).box #[.int .i64 n0, .int .i64 n1, .int .i64 n2] 30).box #[.int .i32 p0, .int .i32 p1, .int .i32 p2] 51
    simp only [World.size_alloc] at h; exact h
  rw [hV] at hb1
  have h1 := Lib.hid (kv.trans (hb1.mono kv.size))
  have K1 := Lib.hid (v.below hb1)
  clear v kv hb1 hV
  obtain ⟨f0, f1, f2⟩ := blk3_facts K1.out.2.1
  have l1 := K1.out.1.lt
  dsimp only at l1
  cases hk : elB key with
  | false =>
    have HK := Lib.hid hk; clear hk
    go_wp2_with fail
    refine (rvalid_any _ _).mono ?_; rintro e w' ⟨rfl, rfl⟩; rw [HK.out]
    go_wp2_with fail
    go_ret
    exact ⟨rfl, h1.out⟩
  | true =>
  have HK := Lib.hid hk; clear hk
  cases hw : words3 n0 n1 n2 with
  | false =>
    have HW := Lib.hid hw; clear hw
    go_wp2_with fail
    refine (rvalid_any _ _).mono ?_; rintro e w' ⟨rfl, rfl⟩; rw [HK.out]
    go_wp2_with fail
    refine (words_any _ _ _ _).mono ?_; rintro e w2 ⟨rfl, hb⟩; rw [HW.out]
    have h2 := Lib.hid (bel_trans h1.out hb); clear hb
    go_wp2_with fail
    go_ret
    exact ⟨rfl, h2.out⟩
  | true =>
  have HW := Lib.hid hw; clear hw
  by_cases hgood : (1 ≤ o ∧ o ≤ 1073741789) ∧ p0 % 1073741789 ≠ 0
  case neg =>
    go_wp2_with fail
    refine (rvalid_any _ _).mono ?_; rintro e w' ⟨rfl, rfl⟩; rw [HK.out]
    go_wp2_with fail
    refine (words_any _ _ _ _).mono ?_; rintro e w2 ⟨rfl, hb⟩; rw [HW.out]
    have h2 := Lib.hid (bel_trans h1.out hb)
    have K2 := Lib.hid (K1.out.below hb); clear hb f0 f1 f2 l1
    obtain ⟨f0, f1, f2⟩ := blk3_facts K2.out.1
    by_cases o1 : 1 ≤ o
    · by_cases o2 : o ≤ 1073741789
      · have hz : p0.tmod 1073741789 = 0 := by
          have : p0 % 1073741789 = 0 := by apply Classical.byContradiction; intro hh; exact hgood ⟨⟨o1, o2⟩, hh⟩
          exact Int.tmod_eq_zero_of_dvd (Int.dvd_of_emod_eq_zero this)
        have hzB : (p0.tmod 1073741789 == 0) = true := by rw [hz]; rfl
        clear hgood
        go_wp2_with fail
        go_ret
        exact ⟨rfl, h2.out⟩
      · clear hgood
        go_wp2_with fail
        go_ret
        exact ⟨rfl, h2.out⟩
    · clear hgood
      go_wp2_with fail
      go_ret
      exact ⟨rfl, h2.out⟩
  case pos =>
  obtain ⟨⟨o1, o2⟩, hp⟩ := hgood
  have hzB : (p0.tmod 1073741789 == 0) = false := by
    rw [beq_eq_false_iff_ne]; intro hh; exact hp (Int.emod_eq_zero_of_dvd (Int.dvd_of_tmod_eq_zero hh))
  have HP := Lib.hid hp; clear hp
  go_wp2_with fail
  refine (rvalid_any _ _).mono ?_; rintro e w' ⟨rfl, rfl⟩; rw [HK.out]
  go_wp2_with fail
  refine (words_any _ _ _ _).mono ?_; rintro e w2 ⟨rfl, hb⟩; rw [HW.out]
  have h2 := Lib.hid (bel_trans h1.out hb)
  have K2 := Lib.hid (K1.out.below hb); clear hb f0 f1 f2 l1
  obtain ⟨f0, f1, f2⟩ := blk3_facts K2.out.1
  have l1 := K2.out.1.lt
  dsimp only at l1
  go_wp2_with fail
  have hKR := K2.out.box (upr 0 p0 p1 p2) 29
  rw [upr_0] at hKR
  have KR0 : Hid (Blks (w2.alloc (.cells #[.int .i64 0, .int .i64 0, .int .i64 0] 29)) [(w2.heap.size, upr 0 p0 p1 p2, 29), (w.heap.size + 1, #[.int .i32 p0, .int .i32 p1, .int .i32 p2], 51), (w.heap.size, #[.int .i64 n0, .int .i64 n1, .int .i64 n2], 30)]) := Lib.hid (by rw [upr_0]; exact hKR)
  clear f0 f1 f2 hKR
  go_loopw [56] (fun i wr => ∃ k : Nat, k ≤ 3 ∧ i = .int .i64 k ∧ Hid (Below w2.heap.size w2 wr) ∧ Hid (Blks wr [(w2.heap.size, upr k p0 p1 p2, 29), (w.heap.size + 1, #[.int .i32 p0, .int .i32 p1, .int .i32 p2], 51), (w.heap.size, #[.int .i64 n0, .int .i64 n1, .int .i64 n2], 30)])) (fun i _ => 3 - (intOf i).toNat)
  case atStart => exact ⟨0, by omega, rfl, Lib.hid (bel_alloc1 _ _), KR0⟩
  case round =>
    obtain ⟨k, hk, rfl, HB, KR⟩ := hrel
    obtain rfl | rfl | rfl | rfl : k = 0 ∨ k = 1 ∨ k = 2 ∨ k = 3 := by omega
    · have K := KR.out
      obtain ⟨c0, c1, c2⟩ := blk3_facts K.2.1
      have e0 := K.1.cell 0; have g0 := K.1.frozen 0
      simp [upr] at e0
      have l1 := K.1.lt; have l2 := K.2.1.lt
      dsimp only at l1 l2
      clear K
      go_wp2_with fail
      go_roundw
      case rel =>
        have h := KR.out.set (by simp; omega) 0 (.int .i64 p0)
        dsimp only at h
        rw [upr_set0] at h
        exact ⟨0 + 1, by omega, rfl, Lib.hid ((HB.out).setCell (p := ⟨w2.heap.size, 0, none⟩) (by simp) _), Lib.hid h⟩
      case measure => simp [intOf]
    · have K := KR.out
      obtain ⟨c0, c1, c2⟩ := blk3_facts K.2.1
      have e0 := K.1.cell 1; have g0 := K.1.frozen 1
      simp [upr] at e0
      have l1 := K.1.lt; have l2 := K.2.1.lt
      dsimp only at l1 l2
      clear K
      go_wp2_with fail
      go_roundw
      case rel =>
        have h := KR.out.set (by simp; omega) 1 (.int .i64 p1)
        dsimp only at h
        rw [upr_set1] at h
        exact ⟨1 + 1, by omega, rfl, Lib.hid ((HB.out).setCell (p := ⟨w2.heap.size, 1, none⟩) (by simp) _), Lib.hid h⟩
      case measure => simp [intOf]
    · have K := KR.out
      obtain ⟨c0, c1, c2⟩ := blk3_facts K.2.1
      have e0 := K.1.cell 2; have g0 := K.1.frozen 2
      simp [upr] at e0
      have l1 := K.1.lt; have l2 := K.2.1.lt
      dsimp only at l1 l2
      clear K
      go_wp2_with fail
      go_roundw
      case rel =>
        have h := KR.out.set (by simp; omega) 2 (.int .i64 p2)
        dsimp only at h
        rw [upr_set2] at h
        exact ⟨2 + 1, by omega, rfl, Lib.hid ((HB.out).setCell (p := ⟨w2.heap.size, 2, none⟩) (by simp) _), Lib.hid h⟩
      case measure => simp [intOf]
    · have K3 : Hid (Blks wr [(w2.heap.size, #[.int .i64 p0, .int .i64 p1, .int .i64 p2], 29), (w.heap.size + 1, #[.int .i32 p0, .int .i32 p1, .int .i32 p2], 51), (w.heap.size, #[.int .i64 n0, .int .i64 n1, .int .i64 n2], 30)]) := Lib.hid (by have h := KR.out; rw [upr_3] at h; exact h)
      have h3 := Lib.hid (h2.out.trans (HB.out.mono h2.out.size))
      clear KR HB
      obtain ⟨⟨⟨s0, s1⟩, ⟨s2, s3⟩, ⟨s4, s5⟩⟩, hS⟩ : ∃ L, sealR key n0 n1 n2 p0 p1 p2 = L := ⟨_, rfl⟩
      have HE : Hid (sealE key n0 n1 n2 = 0) := Lib.hid (sealE_ok HK.out HW.out)
      have hx : elB (elmZ o) = true := elm_range ⟨o1, o2⟩
      have hwj := words3_iff HW.out
      have hsv := seal_val HK.out HW.out p0 p1 p2
      rw [hS] at hsv
      simp only [Prod.mk.injEq] at hsv
      have hsB : elB s1 = true := by
        have e := hsv.1.2
        rw [e]; exact mulZ_el (elm_range (wordB_iff hwj.1)) (powZ_el HK.out _)
      obtain ⟨x, HX⟩ : ∃ x, Hid (elmZ o = x) := ⟨_, Lib.hid rfl⟩
      obtain ⟨y, HY⟩ : ∃ y, Hid (powZ x (-1) = y) := ⟨_, Lib.hid rfl⟩
      obtain ⟨m, HM⟩ : ∃ m, Hid (mulZ s1 y = m) := ⟨_, Lib.hid rfl⟩
      obtain ⟨z, HZ⟩ : ∃ z, Hid (powZ m (invZ p0) = z) := ⟨_, Lib.hid rfl⟩
      have ex : elB x = true := by rw [← HX.out]; exact hx
      have ey : elB y = true := by rw [← HY.out]; exact powZ_el ex _
      have em : elB m = true := by rw [← HM.out]; exact mulZ_el hsB ey
      have ez : elB z = true := by rw [← HZ.out]; exact powZ_el em _
      have hok : mulZ x (powZ z p0) = s1 := by rw [← HZ.out, ← HM.out, ← HY.out]; exact other_key ex hsB HP.out
      have hwm : words3 o n1 n2 = true := (words_at HW.out ⟨o1, o2⟩).1
      obtain ⟨t2, t3, t4, t5, HT⟩ : ∃ t2 t3 t4 t5 : Int, Hid (sealR z o n1 n2 p0 p1 p2 = ((s0, s1), (t2, t3), (t4, t5))) := ⟨powZ 4 p1, mulZ (elmZ n1) (powZ z p1), powZ 4 p2, mulZ (elmZ n2) (powZ z p2), Lib.hid ((seal_val ez hwm p0 p1 p2).trans (by rw [HX.out, hok, hsv.1.1]))⟩
      have HTE : Hid (sealE z o n1 n2 = 0) := Lib.hid (sealE_ok ez hwm)
      have HXE : Hid (elmE o = 0) := Lib.hid (by unfold elmE; rw [if_pos ⟨o1, o2⟩])
      have HYE : Hid (powE x = 0) := Lib.hid (by unfold powE; rw [ex]; rfl)
      have HME : Hid (mulE s1 y = 0) := Lib.hid (mulE_el hsB ey)
      have HZE : Hid (powE m = 0) := Lib.hid (by unfold powE; rw [em]; rfl)
      have HS := Lib.hid hS
      clear hS hsv hwj hx hsB ex ey em ez hok hwm
      obtain ⟨f0, f1, f2⟩ := blk3_facts K3.out.1
      obtain ⟨g0, g1, g2⟩ := blk3_facts K3.out.2.2.1
      have l2 := K3.out.1.lt; have l3 := K3.out.2.2.1.lt
      dsimp only at l2 l3
      go_wp2_with fail
      refine (seal_c key n0 n1 n2 p0 p1 p2 s0 s1 s2 s3 s4 s5 0 _ HS.out HE.out).mono ?_; rintro e w4 ⟨rfl, hb⟩
      have K4 := Lib.hid (K3.out.below hb)
      have h4 := Lib.hid (bel_trans h3.out hb); clear hb f0 f1 f2 g0 g1 g2 l2 l3
      go_wp2_with fail
      refine (elm_c o x 0 _ HX.out HXE.out).mono ?_; rintro e w' ⟨rfl, rfl⟩
      go_wp2_with fail
      refine (pow_c x (-1) y 0 _ HY.out HYE.out).mono ?_; rintro e w5 ⟨rfl, hb⟩
      have K5 := Lib.hid (K4.out.new2 hb)
      have h5 := Lib.hid (belB2 h4.out hb); clear hb
      obtain ⟨f0, f1, f2, f3, f4, f5, _⟩ := blk6_facts K5.out.1
      have l2 := K5.out.1.lt
      dsimp only at l2
      go_wp2_with fail
      refine (mul_c s1 y m 0 _ HM.out HME.out).mono ?_; rintro e w6 ⟨rfl, hb⟩
      have K6 := Lib.hid (K5.out.below hb)
      have h6 := Lib.hid (bel_trans h5.out hb); clear hb f0 f1 f2 f3 f4 f5 l2
      obtain ⟨f0, f1, f2⟩ := blk3_facts K6.out.2.1
      have l2 := K6.out.2.1.lt
      dsimp only at l2
      go_wp2_with fail
      refine (inverse_any _ _).mono ?_; rintro e w' ⟨rfl, rfl⟩
      go_wp2_with fail
      refine (pow_c m (invZ p0) z 0 _ HZ.out HZE.out).mono ?_; rintro e w7 ⟨rfl, hb⟩
      have K7 := Lib.hid (K6.out.below hb)
      have h7 := Lib.hid (bel_trans h6.out hb); clear hb f0 f1 f2 l2
      obtain ⟨f0, f1, f2⟩ := blk3_facts K7.out.2.1
      obtain ⟨g0, g1, g2⟩ := blk3_facts K7.out.2.2.2.1
      have l2 := K7.out.2.1.lt; have l3 := K7.out.2.2.2.1.lt
      dsimp only at l2 l3
      go_wp2_with fail
      refine (seal_c z o n1 n2 p0 p1 p2 s0 s1 t2 t3 t4 t5 0 _ HT.out HTE.out).mono ?_; rintro e w8 ⟨rfl, hb⟩
      have K8 := Lib.hid (K7.out.new2 hb)
      have h8 := Lib.hid (belB2 h7.out hb); clear hb f0 f1 f2 g0 g1 g2 l2 l3
      obtain ⟨f0, f1, f2, f3, f4, f5, _⟩ := blk6_facts K8.out.2.1
      have l2 := K8.out.2.1.lt
      dsimp only at l2
      go_wp2_with fail
      go_region
      all_goals
        go_wp2_with fail
        go_ret
        exact ⟨rfl, (h8.out.alloc h8.out.size _).drew⟩
end Go.Proofs.Ytbmeljkdemdloaa
