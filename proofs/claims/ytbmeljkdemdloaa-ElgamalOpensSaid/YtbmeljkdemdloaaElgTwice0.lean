/- What ElgamalTwice's walk needs: words, the reference's Check, letters sealed again twice. -/
import Derived.Test.YtbmeljkdemdloaaElgForm0
import Derived.Test.YtbmeljkdemdloaaGroupRef
namespace Go.Proofs.Ytbmeljkdemdloaa
open Go.ChangeShapes Go.WideShapes Go.ChangeAt Go.RowKit Go.Shelf
set_option linter.unusedVariables false

def words3 (n0 n1 n2 : Int) : Bool := wordB n0 && wordB n1 && wordB n2

set_option maxHeartbeats 1000000 in
theorem words_any (n0 n1 n2 : Int) (w : World) :
    Calls Try.prog 20 #[.agg #[.int .i64 n0, .int .i64 n1, .int .i64 n2]] w fun e w' => e = .returned (.bool (words3 n0 n1 n2)) ∧ Below w.heap.size w w' := by
  go_enter Try.func20, Try.ntmps20
  go_wp2_with fail
  go_loop [6] (fun i => ∃ k : Nat, k ≤ 3 ∧ i = .int .i64 k ∧ Hid ((1 ≤ k → wordB n0 = true) ∧ (2 ≤ k → wordB n1 = true) ∧ (3 ≤ k → wordB n2 = true))) (fun i => 3 - (intOf i).toNat)
  case atStart => exact ⟨0, by omega, rfl, Lib.hid ⟨by omega, by omega, by omega⟩⟩
  case round =>
    obtain ⟨k, hk, rfl, hv⟩ := hrel
    obtain rfl | rfl | rfl | rfl : k = 0 ∨ k = 1 ∨ k = 2 ∨ k = 3 := by omega
    · by_cases h1 : n0 < 1
      · have H := Lib.hid (show words3 n0 n1 n2 = false by unfold words3 wordB; simp; omega)
        go_wp2_with fail
        go_ret
        exact ⟨ret_bool H.out.symm, bel_alloc1 _ _⟩
      · by_cases h2 : n0 > 1073741789
        · have H := Lib.hid (show words3 n0 n1 n2 = false by unfold words3 wordB; simp; omega)
          go_wp2_with fail
          go_ret
          exact ⟨ret_bool H.out.symm, bel_alloc1 _ _⟩
        · have hw := Lib.hid (show wordB n0 = true by unfold wordB; simp; omega)
          go_wp2_with fail
          go_round
          case rel => exact ⟨0 + 1, by omega, rfl, Lib.hid ⟨fun _ => hw.out, fun h => by omega, fun h => by omega⟩⟩
          case measure => simp [intOf]
    · by_cases h1 : n1 < 1
      · have H := Lib.hid (show words3 n0 n1 n2 = false by unfold words3 wordB; simp; omega)
        go_wp2_with fail
        go_ret
        exact ⟨ret_bool H.out.symm, bel_alloc1 _ _⟩
      · by_cases h2 : n1 > 1073741789
        · have H := Lib.hid (show words3 n0 n1 n2 = false by unfold words3 wordB; simp; omega)
          go_wp2_with fail
          go_ret
          exact ⟨ret_bool H.out.symm, bel_alloc1 _ _⟩
        · have hw := Lib.hid (show wordB n1 = true by unfold wordB; simp; omega)
          go_wp2_with fail
          go_round
          case rel => exact ⟨1 + 1, by omega, rfl, Lib.hid ⟨fun _ => hv.out.1 (by omega), fun _ => hw.out, fun h => by omega⟩⟩
          case measure => simp [intOf]
    · by_cases h1 : n2 < 1
      · have H := Lib.hid (show words3 n0 n1 n2 = false by unfold words3 wordB; simp; omega)
        go_wp2_with fail
        go_ret
        exact ⟨ret_bool H.out.symm, bel_alloc1 _ _⟩
      · by_cases h2 : n2 > 1073741789
        · have H := Lib.hid (show words3 n0 n1 n2 = false by unfold words3 wordB; simp; omega)
          go_wp2_with fail
          go_ret
          exact ⟨ret_bool H.out.symm, bel_alloc1 _ _⟩
        · have hw := Lib.hid (show wordB n2 = true by unfold wordB; simp; omega)
          go_wp2_with fail
          go_round
          case rel => exact ⟨2 + 1, by omega, rfl, Lib.hid ⟨fun _ => hv.out.1 (by omega), fun _ => hv.out.2.1 (by omega), fun _ => hw.out⟩⟩
          case measure => simp [intOf]
    · have H := Lib.hid (show words3 n0 n1 n2 = true by unfold words3; rw [hv.out.1 (by omega), hv.out.2.1 (by omega), hv.out.2.2 (by omega)]; rfl)
      go_wp2_with fail
      go_ret
      exact ⟨ret_bool H.out.symm, bel_alloc1 _ _⟩

set_option maxHeartbeats 1000000 in
theorem rcheck_any (a0 b0 a1 b1 a2 b2 : Int) (w : World) :
    Calls Try.prog 26 #[sealedV a0 b0 a1 b1 a2 b2] w fun e w' => e = .returned (.int .i64 (chkE a0 b0 a1 b1 a2 b2)) ∧ Below w.heap.size w w' := by
  go_enter Try.func26, Try.ntmps26
  go_wp2_with fail
  go_loop [3] (fun i => ∃ k : Nat, k ≤ 3 ∧ i = .int .i64 k ∧ Hid ((1 ≤ k → elB a0 = true ∧ elB b0 = true) ∧ (2 ≤ k → elB a1 = true ∧ elB b1 = true) ∧ (3 ≤ k → elB a2 = true ∧ elB b2 = true))) (fun i => 3 - (intOf i).toNat)
  case atStart => exact ⟨0, by omega, rfl, Lib.hid ⟨by omega, by omega, by omega⟩⟩
  case round =>
    obtain ⟨k, hk, rfl, hv⟩ := hrel
    obtain rfl | rfl | rfl | rfl : k = 0 ∨ k = 1 ∨ k = 2 ∨ k = 3 := by omega
    · cases hx : elB a0 with
      | false =>
        have H := Lib.hid (show chkE a0 b0 a1 b1 a2 b2 = 100 by unfold chkE chkB six okC; simp [hx])
        have HX := Lib.hid hx; clear hx
        go_wp2_with fail
        refine (rvalid_any _ _).mono ?_; rintro e w' ⟨rfl, rfl⟩; rw [HX.out]
        go_wp2_with fail
        go_ret
        exact ⟨ret_int H.out.symm, bel_alloc1 _ _⟩
      | true =>
        cases hy : elB b0 with
        | false =>
          have H := Lib.hid (show chkE a0 b0 a1 b1 a2 b2 = 100 by unfold chkE chkB six okC; simp [hy])
          have HX := Lib.hid hx; clear hx
          have HY := Lib.hid hy; clear hy
          go_wp2_with fail
          refine (rvalid_any _ _).mono ?_; rintro e w' ⟨rfl, rfl⟩; rw [HX.out]
          go_wp2_with fail
          refine (rvalid_any _ _).mono ?_; rintro e w' ⟨rfl, rfl⟩; rw [HY.out]
          go_wp2_with fail
          go_ret
          exact ⟨ret_int H.out.symm, bel_alloc1 _ _⟩
        | true =>
          have HX := Lib.hid hx; clear hx
          have HY := Lib.hid hy; clear hy
          go_wp2_with fail
          refine (rvalid_any _ _).mono ?_; rintro e w' ⟨rfl, rfl⟩; rw [HX.out]
          go_wp2_with fail
          refine (rvalid_any _ _).mono ?_; rintro e w' ⟨rfl, rfl⟩; rw [HY.out]
          go_wp2_with fail
          go_round
          case rel => exact ⟨0 + 1, by omega, rfl, Lib.hid ⟨fun _ => by first | exact ⟨HX.out, HY.out⟩ | exact ⟨trivial, trivial⟩ | simp [HX.out, HY.out], fun h => by omega, fun h => by omega⟩⟩
          case measure => simp [intOf]
    · cases hx : elB a1 with
      | false =>
        have H := Lib.hid (show chkE a0 b0 a1 b1 a2 b2 = 100 by unfold chkE chkB six okC; simp [hx])
        have HX := Lib.hid hx; clear hx
        go_wp2_with fail
        refine (rvalid_any _ _).mono ?_; rintro e w' ⟨rfl, rfl⟩; rw [HX.out]
        go_wp2_with fail
        go_ret
        exact ⟨ret_int H.out.symm, bel_alloc1 _ _⟩
      | true =>
        cases hy : elB b1 with
        | false =>
          have H := Lib.hid (show chkE a0 b0 a1 b1 a2 b2 = 100 by unfold chkE chkB six okC; simp [hy])
          have HX := Lib.hid hx; clear hx
          have HY := Lib.hid hy; clear hy
          go_wp2_with fail
          refine (rvalid_any _ _).mono ?_; rintro e w' ⟨rfl, rfl⟩; rw [HX.out]
          go_wp2_with fail
          refine (rvalid_any _ _).mono ?_; rintro e w' ⟨rfl, rfl⟩; rw [HY.out]
          go_wp2_with fail
          go_ret
          exact ⟨ret_int H.out.symm, bel_alloc1 _ _⟩
        | true =>
          have HX := Lib.hid hx; clear hx
          have HY := Lib.hid hy; clear hy
          go_wp2_with fail
          refine (rvalid_any _ _).mono ?_; rintro e w' ⟨rfl, rfl⟩; rw [HX.out]
          go_wp2_with fail
          refine (rvalid_any _ _).mono ?_; rintro e w' ⟨rfl, rfl⟩; rw [HY.out]
          go_wp2_with fail
          go_round
          case rel => exact ⟨1 + 1, by omega, rfl, Lib.hid ⟨fun _ => hv.out.1 (by omega), fun _ => by first | exact ⟨HX.out, HY.out⟩ | exact ⟨trivial, trivial⟩ | simp [HX.out, HY.out], fun h => by omega⟩⟩
          case measure => simp [intOf]
    · cases hx : elB a2 with
      | false =>
        have H := Lib.hid (show chkE a0 b0 a1 b1 a2 b2 = 100 by unfold chkE chkB six okC; simp [hx])
        have HX := Lib.hid hx; clear hx
        go_wp2_with fail
        refine (rvalid_any _ _).mono ?_; rintro e w' ⟨rfl, rfl⟩; rw [HX.out]
        go_wp2_with fail
        go_ret
        exact ⟨ret_int H.out.symm, bel_alloc1 _ _⟩
      | true =>
        cases hy : elB b2 with
        | false =>
          have H := Lib.hid (show chkE a0 b0 a1 b1 a2 b2 = 100 by unfold chkE chkB six okC; simp [hy])
          have HX := Lib.hid hx; clear hx
          have HY := Lib.hid hy; clear hy
          go_wp2_with fail
          refine (rvalid_any _ _).mono ?_; rintro e w' ⟨rfl, rfl⟩; rw [HX.out]
          go_wp2_with fail
          refine (rvalid_any _ _).mono ?_; rintro e w' ⟨rfl, rfl⟩; rw [HY.out]
          go_wp2_with fail
          go_ret
          exact ⟨ret_int H.out.symm, bel_alloc1 _ _⟩
        | true =>
          have HX := Lib.hid hx; clear hx
          have HY := Lib.hid hy; clear hy
          go_wp2_with fail
          refine (rvalid_any _ _).mono ?_; rintro e w' ⟨rfl, rfl⟩; rw [HX.out]
          go_wp2_with fail
          refine (rvalid_any _ _).mono ?_; rintro e w' ⟨rfl, rfl⟩; rw [HY.out]
          go_wp2_with fail
          go_round
          case rel => exact ⟨2 + 1, by omega, rfl, Lib.hid ⟨fun _ => hv.out.1 (by omega), fun _ => hv.out.2.1 (by omega), fun _ => by first | exact ⟨HX.out, HY.out⟩ | exact ⟨trivial, trivial⟩ | simp [HX.out, HY.out]⟩⟩
          case measure => simp [intOf]
    · have H := Lib.hid (show chkE a0 b0 a1 b1 a2 b2 = 0 from chk_of (hv.out.1 (by omega)).1 (hv.out.1 (by omega)).2 (hv.out.2.1 (by omega)).1 (hv.out.2.1 (by omega)).2 (hv.out.2.2 (by omega)).1 (hv.out.2.2 (by omega)).2)
      go_wp2_with fail
      go_ret
      exact ⟨ret_int H.out.symm, bel_alloc1 _ _⟩

/-- sealed again by m and then by n: by m + n -/
theorem again2 {key x c : Int} (hx : elB x = true) (hc : elB c = true) (m n : Int) : mulZ (mulZ c (powZ x m)) (powZ x n) = mulZ c (powZ x (m + n)) := by
  rw [mulZ_assoc hc (powZ_el hx _) (powZ_el hx _), powZ_add hx]
theorem again0 {x c : Int} (hx : elB x = true) (hc : elB c = true) : mulZ c (powZ x 0) = c := by
  rw [powZ_zero hx, mulZ_one_r hc]

def okL (l : Let) : Bool := chkB l.1.1 l.1.2 l.2.1.1 l.2.1.2 l.2.2.1 l.2.2.2
theorem againR_eq {key p0 p1 p2 : Int} {l : Let} (hk : elB key = true) (h : okL l = true) : againR key p0 p1 p2 l = mapL (gMask key p0 p1 p2) l := by
  unfold againR; rw [if_pos hk, if_pos (by unfold chkE; rw [show chkB l.1.1 l.1.2 l.2.1.1 l.2.1.2 l.2.2.1 l.2.2.2 = true from h]; rfl)]
theorem againE_ok {key : Int} {l : Let} (hk : elB key = true) (h : okL l = true) : againE key l = 0 := by
  unfold againE; rw [if_pos hk]; unfold chkE; rw [show chkB l.1.1 l.1.2 l.2.1.1 l.2.1.2 l.2.2.1 l.2.2.2 = true from h]; rfl
theorem okL_of {l : Let} (h : chkE l.1.1 l.1.2 l.2.1.1 l.2.1.2 l.2.2.1 l.2.2.2 = 0) : okL l = true := by
  unfold chkE at h; unfold okL; split at h
  · assumption
  · omega
theorem okL_again {key p0 p1 p2 : Int} {l : Let} (hk : elB key = true) (h : okL l = true) : okL (againR key p0 p1 p2 l) = true := okL_of (again_form key p0 p1 p2 l hk h _ rfl)
theorem again_again {key : Int} {l : Let} (hk : elB key = true) (h : okL l = true) (p0 p1 p2 q0 q1 q2 : Int) :
    againR key q0 q1 q2 (againR key p0 p1 p2 l) = againR key (p0 + q0) (p1 + q1) (p2 + q2) l := by
  rw [againR_eq hk (okL_again hk h), againR_eq hk h, againR_eq hk h]
  obtain ⟨⟨a0, b0⟩, ⟨a1, b1⟩, ⟨a2, b2⟩⟩ := l
  obtain ⟨h0, h1, h2, h3, h4, h5⟩ := chk_six h
  simp only [mapL, gMask, nth3]
  simp [again2 (key := key) elB_4 h0, again2 (key := key) hk h1, again2 (key := key) elB_4 h2, again2 (key := key) hk h3, again2 (key := key) elB_4 h4, again2 (key := key) hk h5]
theorem again_zero {key : Int} {l : Let} (hk : elB key = true) (h : okL l = true) : againR key 0 0 0 l = l := by
  rw [againR_eq hk h]
  obtain ⟨⟨a0, b0⟩, ⟨a1, b1⟩, ⟨a2, b2⟩⟩ := l
  obtain ⟨h0, h1, h2, h3, h4, h5⟩ := chk_six h
  simp only [mapL, gMask, nth3]
  simp [again0 elB_4 h0, again0 hk h1, again0 elB_4 h2, again0 hk h3, again0 elB_4 h4, again0 hk h5]

theorem wordB_iff {n : Int} (h : wordB n = true) : 1 ≤ n ∧ n ≤ 1073741789 := by unfold wordB at h; simpa using h
def sayL (n0 n1 n2 : Int) : Let := ((1, elmZ n0), (1, elmZ n1), (1, elmZ n2))
theorem words3_iff {n0 n1 n2 : Int} (h : words3 n0 n1 n2 = true) : wordB n0 = true ∧ wordB n1 = true ∧ wordB n2 = true := by
  unfold words3 at h; simp at h; exact ⟨h.1.1, h.1.2, h.2⟩
theorem okL_say {n0 n1 n2 : Int} (h : words3 n0 n1 n2 = true) : okL (sayL n0 n1 n2) = true := by
  obtain ⟨h0, h1, h2⟩ := words3_iff h
  exact okL_of (chk_of elB_one (elm_range (wordB_iff h0)) elB_one (elm_range (wordB_iff h1)) elB_one (elm_range (wordB_iff h2)))
/-- what is sealed is the plain letter sealed again -/
theorem sealL_eq (key n0 n1 n2 p0 p1 p2 : Int) : sealL key n0 n1 n2 p0 p1 p2 = mapL (gMask key p0 p1 p2) (sayL n0 n1 n2) := by
  unfold sealL sayL mapL gSay
  simp only [nth3]
  simp
theorem seal_again {key n0 n1 n2 : Int} (hk : elB key = true) (h : words3 n0 n1 n2 = true) (p0 p1 p2 : Int) : sealR key n0 n1 n2 p0 p1 p2 = againR key p0 p1 p2 (sayL n0 n1 n2) := by
  rw [againR_eq hk (okL_say h)]
  unfold sealR; rw [if_pos hk, if_pos (show (wordB n0 && wordB n1 && wordB n2) = true from h), sealL_eq]
theorem sealE_ok {key n0 n1 n2 : Int} (hk : elB key = true) (h : words3 n0 n1 n2 = true) : sealE key n0 n1 n2 = 0 := by
  unfold sealE; rw [if_pos hk, if_pos (show (wordB n0 && wordB n1 && wordB n2) = true from h)]
end Go.Proofs.Ytbmeljkdemdloaa
