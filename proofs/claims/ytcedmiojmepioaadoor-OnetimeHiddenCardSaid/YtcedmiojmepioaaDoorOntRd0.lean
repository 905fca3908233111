/- Letters that are stripped twice: what they say. -/
import Derived.Test.YtcedmiojmepioaaDoorElgZE
import Derived.Test.YtcedmiojmepioaaDoorOntSan
namespace Go.Proofs.YtcedmiojmepioaaDoor
open Go.RowKit
set_option linter.unusedVariables false
set_option linter.unusedSimpArgs false

theorem strip_alg {e : Int} (he : elB e = true) (t u s : Int) : mulZ (mulZ e (powZ 4 u)) (powZ (powZ 4 t) (-s)) = mulZ e (powZ 4 (u + t * (-s))) := by
  rw [powZ_mul elB_4, mulZ_assoc he (powZ_el elB_4 _) (powZ_el elB_4 _), powZ_add elB_4]
theorem exp_zero (s1 s2 t : Int) : (s1 + s2) * t + t * (-s1) + t * (-s2) = 0 := by
  rw [Int.add_mul, Int.mul_neg, Int.mul_neg, Int.mul_comm t s1, Int.mul_comm t s2]; omega
theorem strip_cip {s1 s2 key e t a b : Int} (hk : key = powZ 4 (s1 + s2)) (he : elB e = true) (h : IsCip key e t a b) : ∃ c, mulZ b (powZ a (-s1)) = c ∧ elB c = true ∧ mulZ c (powZ a (-s2)) = e := by
  have hb : b = mulZ e (powZ 4 ((s1 + s2) * t)) := by rw [← h.hb, hk, powZ_mul elB_4]
  refine ⟨_, rfl, ?_, ?_⟩
  · rw [hb, ← h.ha, strip_alg he]; exact mulZ_el he (powZ_el elB_4 _)
  · rw [hb, ← h.ha, strip_alg he, strip_alg he, exp_zero, powZ_zero elB_4, mulZ_one_r he]
theorem sealed_cip {key e r m xa xb a b : Int} (hk : elB key = true) (he : elB e = true) (h : IsCip key e r xa xb) (h0 : IsCip key (elmZ 1) m a b) : IsCip key e (r + m) (mulZ xa a) (mulZ xb b) := by
  have e1 : elmZ 1 = 1 := elm_1
  refine ⟨by rw [← h.ha, ← h0.ha, powZ_add elB_4], ?_⟩
  rw [← h.hb, ← h0.hb, e1, mulZ_one (powZ_el hk m), mulZ_assoc he (powZ_el hk r) (powZ_el hk m), powZ_add hk]
theorem cip_congr {key e t u a b : Int} (h : IsCip key e t a b) (hu : u % 1073741789 = t % 1073741789) : IsCip key e u a b := ⟨by rw [powZ_congr 4 hu]; exact h.ha, by rw [powZ_congr key hu]; exact h.hb⟩
theorem strip_is (s a0 b0 a1 b1 a2 b2 c0 c1 c2 : Int) (w : World) (hs : Hid (secB s = true)) (hc : Hid (chkE a0 b0 a1 b1 a2 b2 = 0)) (h0 : Hid (mulZ b0 (powZ a0 (-s)) = c0)) (h1 : Hid (mulZ b1 (powZ a1 (-s)) = c1)) (h2 : Hid (mulZ b2 (powZ a2 (-s)) = c2)) :
    Calls Tryd.prog 12 #[.int .i64 s, sealedV a0 b0 a1 b1 a2 b2] w fun e w' => e = .returned (.tuple #[sealedV a0 c0 a1 c1 a2 c2, .int .i64 0]) ∧ Below w.heap.size w w' := by
  have := strip_any s ((a0, b0), (a1, b1), (a2, b2)) w
  have e1 : stripR s ((a0, b0), (a1, b1), (a2, b2)) = ((a0, c0), (a1, c1), (a2, c2)) := by
    unfold stripR
    rw [if_pos hs.out, if_pos hc.out, ← h0.out, ← h1.out, ← h2.out]
    rfl
  have e2 : stripE s ((a0, b0), (a1, b1), (a2, b2)) = 0 := by unfold stripE; rw [if_pos hs.out]; exact hc.out
  rw [e1, e2] at this
  exact this
theorem read_is (a0 b0 a1 b1 a2 b2 n0 n1 n2 : Int) (w : World) (hc : Hid (chkE a0 b0 a1 b1 a2 b2 = 0)) (h0 : Hid (numZ b0 = n0)) (h1 : Hid (numZ b1 = n1)) (h2 : Hid (numZ b2 = n2)) :
    Calls Tryd.prog 13 #[sealedV a0 b0 a1 b1 a2 b2] w fun e w' => e = .returned (.tuple #[.agg #[.int .i64 n0, .int .i64 n1, .int .i64 n2], .int .i64 0]) ∧ Below w.heap.size w w' := by
  have := read_any ((a0, b0), (a1, b1), (a2, b2)) w
  have e2 : readE ((a0, b0), (a1, b1), (a2, b2)) = 0 := hc.out
  have e1 : readR ((a0, b0), (a1, b1), (a2, b2)) = (n0, n1, n2) := by
    unfold readR; rw [if_pos e2, ← h0.out, ← h1.out, ← h2.out]
  rw [e1, e2] at this
  exact this
theorem rchk_is (a0 b0 a1 b1 a2 b2 : Int) (w : World) (hc : Hid (chkE a0 b0 a1 b1 a2 b2 = 0)) :
    Calls Tryd.prog 11 #[sealedV a0 b0 a1 b1 a2 b2] w fun e w' => e = .returned (.int .i64 0) ∧ Below w.heap.size w w' := by
  have := rcheck_any a0 b0 a1 b1 a2 b2 w
  rw [hc.out] at this
  exact this
theorem pub_ok (s key : Int) (w : World) (hs : Hid (secB s = true)) (hk : Hid (powZ 4 s = key)) :
    Calls Tryd.prog 6 #[.int .i64 s] w fun e w' => e = .returned (.tuple #[.int .i64 key, .int .i64 0]) ∧ Below w.heap.size w w' := by
  have := public_any s w
  rw [show pubZ s = key by unfold pubZ; rw [if_pos hs.out]; exact hk.out, show pubE s = 0 by unfold pubE; rw [if_pos hs.out]] at this
  exact this
theorem pub_no (s : Int) (w : World) (hs : Hid (secB s = false)) :
    Calls Tryd.prog 6 #[.int .i64 s] w fun e w' => e = .returned (.tuple #[.int .i64 0, .int .i64 110]) ∧ Below w.heap.size w w' := by
  have := public_any s w
  rw [show pubZ s = 0 by unfold pubZ; rw [hs.out]; rfl, show pubE s = 110 by unfold pubE; rw [hs.out]; rfl] at this
  exact this
theorem join2 (a b key : Int) (w : World) (ha : Hid (elB a = true)) (hb : Hid (elB b = true)) (hk : Hid (mulZ a b = key)) :
    Calls Tryd.prog 7 #[.slice (some ⟨w.heap.size, 0, none⟩) 2 2] (w.alloc (.cells #[.int .i64 a, .int .i64 b] 3)) fun e w' => e = .returned (.tuple #[.int .i64 key, .int .i64 0]) ∧ Below w.heap.size w w' := by
  have := join_any w.heap.size 0 2 2 [a, b] (w.alloc (.cells #[.int .i64 a, .int .i64 b] 3)) rfl (by omega) (fun j h => ints_new [a, b] w 3 j h) (by simp)
  have hall : [a, b].all elB = true := by simp [ha.out, hb.out]
  rw [show joinZ [a, b] = key by unfold joinZ; rw [if_pos hall, ← hk.out]; simp [mulZ_one ha.out], show joinE [a, b] = 0 by unfold joinE; rw [if_pos hall]] at this
  exact this.mono fun e w' h => ⟨h.1, (bel_alloc1 w _).trans (h.2.mono (by simp))⟩
theorem secB_iff {s : Int} : secB s = true ↔ 1 ≤ s ∧ s < 1073741789 := by unfold secB; simp
end Go.Proofs.YtcedmiojmepioaaDoor
