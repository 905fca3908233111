/- Exactly the squares are elements, for all ints. No condition. -/
import Derived.Test.YtlniibplocnipaaLawKit
import Derived.Test.YtlniibplocnipaaGroupPows
namespace Go.Proofs.Ytlniibplocnipaa
open Go.ChangeShapes Go.WideShapes Go.ChangeAt Go.RowKit
set_option linter.unusedVariables false

/-- what the law meets: n is x modulo P, from 1 to P - 1 -/
structure Sqs (x n : Int) (v : Bool) (r : Int) : Prop where
  v1 : elB n = v
  v2 : elB (2147483579 - n) = !v
  v3 : elB (n * n % 2147483579) = true
  v4 : n ≠ x → elB x = false
  p1 : v = true → powZ n 536870895 = r
  p2 : v = true → powZ r 2 = n

theorem sqs {x n : Int} (hn : x % 2147483579 = n) (h1 : 1 ≤ n) : ∃ v r, Sqs x n v r := by
  have h2 : n < 2147483579 := by omega
  refine ⟨elB n, powZ n 536870895, rfl, element_low h1 h2, elB_sq h1 h2, fun hne => ?_, fun _ => rfl, fun hv => ?_⟩
  · by_cases c : x < 1
    · exact elB_low c
    · exact elB_high (by omega)
  · rw [powZ_mul hv, powZ_congr n (show ((536870895 : Int) * 2) % 1073741789 = 1 % 1073741789 from rfl), powZ_one hv]

set_option maxRecDepth 100000 in
set_option maxHeartbeats 2000000 in
theorem groupSquares_pos_true_eq (x r : Int) (w : World) (ht : x.tmod 2147483579 = x) (n1 : 1 ≤ x) (n2 : x < 2147483579) (n3 : 0 ≤ x * x) (n4 : x * x ≤ 4611686018427387904) (nz : (x == 0) = false) (g : Hid (Sqs x x true r)) :
    Calls Try.prog 6 #[.int .i64 x] w fun e w' => e = .returned (.bool true) ∧ Below w.heap.size w w' := by
  go_enter Try.func6, Try.ntmps6
  go_wp2_with fail
  refine (sane_any _).mono ?_; rintro e w1 ⟨rfl, hb1⟩
  have hS1 := Lib.hid hb1; clear hb1
  go_wp2_with fail
  refine (val_c x true _ g.out.v1).mono ?_; rintro e w' ⟨rfl, rfl⟩
  go_wp2_with fail
  refine (val_c (2147483579 - x) false _ g.out.v2).mono ?_; rintro e w' ⟨rfl, rfl⟩
  go_wp2_with fail
  refine (val_c (x * x % 2147483579) true _ g.out.v3).mono ?_; rintro e w' ⟨rfl, rfl⟩
  go_wp2_with fail
  refine (val_c x true _ g.out.v1).mono ?_; rintro e w' ⟨rfl, rfl⟩
  go_wp2_with fail
  refine (lpow_n x 536870895 r _ (g.out.p1 rfl)).mono ?_; rintro e w2 ⟨rfl, hb2⟩
  have hS2 := Lib.hid (bel_trans hS1.out hb2); clear hb2 hS1
  go_wp2_with fail
  refine (lpow_n r 2 x _ (g.out.p2 rfl)).mono ?_; rintro e w3 ⟨rfl, hb3⟩
  have hS3 := Lib.hid (bel_trans hS2.out hb3); clear hb3 hS2
  go_wp2_with fail
  go_ret
  exact ⟨rfl, hS3.out⟩

set_option maxRecDepth 100000 in
set_option maxHeartbeats 2000000 in
theorem groupSquares_pos_true_ne (x t r : Int) (w : World) (ht : x.tmod 2147483579 = t) (n1 : 1 ≤ t) (n2 : t < 2147483579) (n3 : 0 ≤ (t) * (t)) (n4 : (t) * (t) ≤ 4611686018427387904) (nz : (t == 0) = false) (nx : (t == x) = false) (g : Hid (Sqs x (t) true r)) (hx4 : Hid (elB x = false)) :
    Calls Try.prog 6 #[.int .i64 x] w fun e w' => e = .returned (.bool true) ∧ Below w.heap.size w w' := by
  have nx2 : (t != x) = true := by rw [bne_iff_ne]; exact beq_eq_false_iff_ne.1 nx
  have nx3 : (x == t) = false := by rw [beq_eq_false_iff_ne]; exact fun h => beq_eq_false_iff_ne.1 nx h.symm
  go_enter Try.func6, Try.ntmps6
  go_wp2_with fail
  refine (sane_any _).mono ?_; rintro e w1 ⟨rfl, hb1⟩
  have hS1 := Lib.hid hb1; clear hb1
  go_wp2_with fail
  refine (val_c (t) true _ g.out.v1).mono ?_; rintro e w' ⟨rfl, rfl⟩
  go_wp2_with fail
  refine (val_c (2147483579 - (t)) false _ g.out.v2).mono ?_; rintro e w' ⟨rfl, rfl⟩
  go_wp2_with fail
  refine (val_c ((t) * (t) % 2147483579) true _ g.out.v3).mono ?_; rintro e w' ⟨rfl, rfl⟩
  go_wp2_with fail
  refine (val_c x false _ hx4.out).mono ?_; rintro e w' ⟨rfl, rfl⟩
  go_wp2_with fail
  refine (val_c (t) true _ g.out.v1).mono ?_; rintro e w' ⟨rfl, rfl⟩
  go_wp2_with fail
  refine (lpow_n (t) 536870895 r _ (g.out.p1 rfl)).mono ?_; rintro e w2 ⟨rfl, hb2⟩
  have hS2 := Lib.hid (bel_trans hS1.out hb2); clear hb2 hS1
  go_wp2_with fail
  refine (lpow_n r 2 (t) _ (g.out.p2 rfl)).mono ?_; rintro e w3 ⟨rfl, hb3⟩
  have hS3 := Lib.hid (bel_trans hS2.out hb3); clear hb3 hS2
  go_wp2_with fail
  go_ret
  exact ⟨rfl, hS3.out⟩

set_option maxRecDepth 100000 in
set_option maxHeartbeats 2000000 in
theorem groupSquares_pos_false_eq (x r : Int) (w : World) (ht : x.tmod 2147483579 = x) (n1 : 1 ≤ x) (n2 : x < 2147483579) (n3 : 0 ≤ x * x) (n4 : x * x ≤ 4611686018427387904) (nz : (x == 0) = false) (g : Hid (Sqs x x false r)) :
    Calls Try.prog 6 #[.int .i64 x] w fun e w' => e = .returned (.bool true) ∧ Below w.heap.size w w' := by
  go_enter Try.func6, Try.ntmps6
  go_wp2_with fail
  refine (sane_any _).mono ?_; rintro e w1 ⟨rfl, hb1⟩
  have hS1 := Lib.hid hb1; clear hb1
  go_wp2_with fail
  refine (val_c x false _ g.out.v1).mono ?_; rintro e w' ⟨rfl, rfl⟩
  go_wp2_with fail
  refine (val_c (2147483579 - x) true _ g.out.v2).mono ?_; rintro e w' ⟨rfl, rfl⟩
  go_wp2_with fail
  refine (val_c (x * x % 2147483579) true _ g.out.v3).mono ?_; rintro e w' ⟨rfl, rfl⟩
  go_wp2_with fail
  refine (val_c x false _ g.out.v1).mono ?_; rintro e w' ⟨rfl, rfl⟩
  go_wp2_with fail
  go_ret
  exact ⟨rfl, hS1.out⟩

set_option maxRecDepth 100000 in
set_option maxHeartbeats 2000000 in
theorem groupSquares_pos_false_ne (x t r : Int) (w : World) (ht : x.tmod 2147483579 = t) (n1 : 1 ≤ t) (n2 : t < 2147483579) (n3 : 0 ≤ (t) * (t)) (n4 : (t) * (t) ≤ 4611686018427387904) (nz : (t == 0) = false) (nx : (t == x) = false) (g : Hid (Sqs x (t) false r)) (hx4 : Hid (elB x = false)) :
    Calls Try.prog 6 #[.int .i64 x] w fun e w' => e = .returned (.bool true) ∧ Below w.heap.size w w' := by
  have nx2 : (t != x) = true := by rw [bne_iff_ne]; exact beq_eq_false_iff_ne.1 nx
  have nx3 : (x == t) = false := by rw [beq_eq_false_iff_ne]; exact fun h => beq_eq_false_iff_ne.1 nx h.symm
  go_enter Try.func6, Try.ntmps6
  go_wp2_with fail
  refine (sane_any _).mono ?_; rintro e w1 ⟨rfl, hb1⟩
  have hS1 := Lib.hid hb1; clear hb1
  go_wp2_with fail
  refine (val_c (t) false _ g.out.v1).mono ?_; rintro e w' ⟨rfl, rfl⟩
  go_wp2_with fail
  refine (val_c (2147483579 - (t)) true _ g.out.v2).mono ?_; rintro e w' ⟨rfl, rfl⟩
  go_wp2_with fail
  refine (val_c ((t) * (t) % 2147483579) true _ g.out.v3).mono ?_; rintro e w' ⟨rfl, rfl⟩
  go_wp2_with fail
  refine (val_c x false _ hx4.out).mono ?_; rintro e w' ⟨rfl, rfl⟩
  go_wp2_with fail
  refine (val_c (t) false _ g.out.v1).mono ?_; rintro e w' ⟨rfl, rfl⟩
  go_wp2_with fail
  go_ret
  exact ⟨rfl, hS1.out⟩

set_option maxRecDepth 100000 in
set_option maxHeartbeats 2000000 in
theorem groupSquares_neg_true_ne (x t r : Int) (w : World) (ht : x.tmod 2147483579 = t) (t1 : t < 0) (t2 : -2147483579 < t) (n1 : 1 ≤ t + 2147483579) (n2 : t + 2147483579 < 2147483579) (n3 : 0 ≤ (t + 2147483579) * (t + 2147483579)) (n4 : (t + 2147483579) * (t + 2147483579) ≤ 4611686018427387904) (nz : (t + 2147483579 == 0) = false) (nx : (t + 2147483579 == x) = false) (g : Hid (Sqs x (t + 2147483579) true r)) (hx4 : Hid (elB x = false)) :
    Calls Try.prog 6 #[.int .i64 x] w fun e w' => e = .returned (.bool true) ∧ Below w.heap.size w w' := by
  have nx2 : (t + 2147483579 != x) = true := by rw [bne_iff_ne]; exact beq_eq_false_iff_ne.1 nx
  have nx3 : (x == t + 2147483579) = false := by rw [beq_eq_false_iff_ne]; exact fun h => beq_eq_false_iff_ne.1 nx h.symm
  go_enter Try.func6, Try.ntmps6
  go_wp2_with fail
  refine (sane_any _).mono ?_; rintro e w1 ⟨rfl, hb1⟩
  have hS1 := Lib.hid hb1; clear hb1
  go_wp2_with fail
  refine (val_c (t + 2147483579) true _ g.out.v1).mono ?_; rintro e w' ⟨rfl, rfl⟩
  go_wp2_with fail
  refine (val_c (2147483579 - (t + 2147483579)) false _ g.out.v2).mono ?_; rintro e w' ⟨rfl, rfl⟩
  go_wp2_with fail
  refine (val_c ((t + 2147483579) * (t + 2147483579) % 2147483579) true _ g.out.v3).mono ?_; rintro e w' ⟨rfl, rfl⟩
  go_wp2_with fail
  refine (val_c x false _ hx4.out).mono ?_; rintro e w' ⟨rfl, rfl⟩
  go_wp2_with fail
  refine (val_c (t + 2147483579) true _ g.out.v1).mono ?_; rintro e w' ⟨rfl, rfl⟩
  go_wp2_with fail
  refine (lpow_n (t + 2147483579) 536870895 r _ (g.out.p1 rfl)).mono ?_; rintro e w2 ⟨rfl, hb2⟩
  have hS2 := Lib.hid (bel_trans hS1.out hb2); clear hb2 hS1
  go_wp2_with fail
  refine (lpow_n r 2 (t + 2147483579) _ (g.out.p2 rfl)).mono ?_; rintro e w3 ⟨rfl, hb3⟩
  have hS3 := Lib.hid (bel_trans hS2.out hb3); clear hb3 hS2
  go_wp2_with fail
  go_ret
  exact ⟨rfl, hS3.out⟩

set_option maxRecDepth 100000 in
set_option maxHeartbeats 2000000 in
theorem groupSquares_neg_false_ne (x t r : Int) (w : World) (ht : x.tmod 2147483579 = t) (t1 : t < 0) (t2 : -2147483579 < t) (n1 : 1 ≤ t + 2147483579) (n2 : t + 2147483579 < 2147483579) (n3 : 0 ≤ (t + 2147483579) * (t + 2147483579)) (n4 : (t + 2147483579) * (t + 2147483579) ≤ 4611686018427387904) (nz : (t + 2147483579 == 0) = false) (nx : (t + 2147483579 == x) = false) (g : Hid (Sqs x (t + 2147483579) false r)) (hx4 : Hid (elB x = false)) :
    Calls Try.prog 6 #[.int .i64 x] w fun e w' => e = .returned (.bool true) ∧ Below w.heap.size w w' := by
  have nx2 : (t + 2147483579 != x) = true := by rw [bne_iff_ne]; exact beq_eq_false_iff_ne.1 nx
  have nx3 : (x == t + 2147483579) = false := by rw [beq_eq_false_iff_ne]; exact fun h => beq_eq_false_iff_ne.1 nx h.symm
  go_enter Try.func6, Try.ntmps6
  go_wp2_with fail
  refine (sane_any _).mono ?_; rintro e w1 ⟨rfl, hb1⟩
  have hS1 := Lib.hid hb1; clear hb1
  go_wp2_with fail
  refine (val_c (t + 2147483579) false _ g.out.v1).mono ?_; rintro e w' ⟨rfl, rfl⟩
  go_wp2_with fail
  refine (val_c (2147483579 - (t + 2147483579)) true _ g.out.v2).mono ?_; rintro e w' ⟨rfl, rfl⟩
  go_wp2_with fail
  refine (val_c ((t + 2147483579) * (t + 2147483579) % 2147483579) true _ g.out.v3).mono ?_; rintro e w' ⟨rfl, rfl⟩
  go_wp2_with fail
  refine (val_c x false _ hx4.out).mono ?_; rintro e w' ⟨rfl, rfl⟩
  go_wp2_with fail
  refine (val_c (t + 2147483579) false _ g.out.v1).mono ?_; rintro e w' ⟨rfl, rfl⟩
  go_wp2_with fail
  go_ret
  exact ⟨rfl, hS1.out⟩

set_option maxHeartbeats 1000000 in
theorem groupSquares_zero (x : Int) (w : World) (t1 : ¬ x.tmod 2147483579 < 0) (nz : (x.tmod 2147483579 == 0) = true) :
    Calls Try.prog 6 #[.int .i64 x] w fun e w' => e = .returned (.bool true) ∧ Below w.heap.size w w' := by
  go_enter Try.func6, Try.ntmps6
  go_wp2_with fail
  refine (sane_any _).mono ?_; rintro e w1 ⟨rfl, hb1⟩
  have hS1 := Lib.hid hb1; clear hb1
  go_wp2_with fail
  refine (val_c 0 false _ elB_0).mono ?_; rintro e w' ⟨rfl, rfl⟩
  go_wp2_with fail
  refine (val_c 2147483579 false _ elB_P).mono ?_; rintro e w' ⟨rfl, rfl⟩
  go_wp2_with fail
  refine (val_c (-4) false _ (elB_low (by omega))).mono ?_; rintro e w' ⟨rfl, rfl⟩
  go_wp2_with fail
  go_ret
  exact ⟨rfl, hS1.out⟩

theorem groupSquares_walk (x : Int) (_ : (Lit.int .i64 x).wf = true) (w : World) :
    Calls Try.prog 6 #[.int .i64 x] w fun e w' => e = .returned (.bool true) ∧ Below w.heap.size w w' := by
  have b1 := Int.tmod_lt_of_pos x (show (0 : Int) < 2147483579 by omega)
  have b2 : -2147483579 < x.tmod 2147483579 := Int.lt_tmod_of_pos x (by omega)
  have e : (x.tmod 2147483579 + 2147483579) % 2147483579 = x % 2147483579 := by
    rw [Int.add_emod_right, Int.tmod_eq_emod]; split <;> simp
  by_cases t1 : x.tmod 2147483579 < 0
  · have hn : x % 2147483579 = x.tmod 2147483579 + 2147483579 := by omega
    obtain ⟨v, r, g⟩ := sqs hn (by omega)
    obtain ⟨n3, n4⟩ := mul_bound (a := x.tmod 2147483579 + 2147483579) (b := x.tmod 2147483579 + 2147483579) (by omega) (by omega) (by omega) (by omega)
    have hne : x.tmod 2147483579 + 2147483579 ≠ x := by
      intro h
      have : 0 ≤ x := by omega
      have := Int.tmod_nonneg 2147483579 this
      omega
    have hx4 := g.v4 hne
    cases v with
    | true => exact groupSquares_neg_true_ne x _ r w rfl t1 b2 (by omega) (by omega) n3 n4 (beq_eq_false_iff_ne.2 (by omega)) (beq_eq_false_iff_ne.2 hne) g hx4
    | false => exact groupSquares_neg_false_ne x _ r w rfl t1 b2 (by omega) (by omega) n3 n4 (beq_eq_false_iff_ne.2 (by omega)) (beq_eq_false_iff_ne.2 hne) g hx4
  · by_cases z : x.tmod 2147483579 = 0
    · exact groupSquares_zero x w t1 (beq_iff_eq.2 z)
    · have hn : x % 2147483579 = x.tmod 2147483579 := by omega
      obtain ⟨v, r, g⟩ := sqs hn (by omega)
      obtain ⟨n3, n4⟩ := mul_bound (a := x.tmod 2147483579) (b := x.tmod 2147483579) (by omega) (by omega) (by omega) (by omega)
      by_cases hne : x.tmod 2147483579 = x
      · have he : x % 2147483579 = x := by omega
        rw [hne] at n3 n4 g z b1
        cases v with
        | true => exact groupSquares_pos_true_eq x r w hne (by omega) (by omega) n3 n4 (beq_eq_false_iff_ne.2 z) g
        | false => exact groupSquares_pos_false_eq x r w hne (by omega) (by omega) n3 n4 (beq_eq_false_iff_ne.2 z) g
      · have hx4 := g.v4 hne
        cases v with
        | true => exact groupSquares_pos_true_ne x _ r w rfl (by omega) (by omega) n3 n4 (beq_eq_false_iff_ne.2 z) (beq_eq_false_iff_ne.2 hne) g hx4
        | false => exact groupSquares_pos_false_ne x _ r w rfl (by omega) (by omega) n3 n4 (beq_eq_false_iff_ne.2 z) (beq_eq_false_iff_ne.2 hne) g hx4

namespace groupSquares
theorem readable : ∀ t ∈ Try.f6.params.toList, Try.prog.readableRec t = true ∧ t < Try.prog.types.size := by
  rw [Try.params6]
  intro t ht
  simp only [List.mem_cons, List.not_mem_nil, or_false] at ht
  rcases ht with rfl
  all_goals exact ⟨by kernel_rfl, by decide +kernel⟩

set_option maxRecDepth 100000 in
theorem lifted (os : Os) (started : os.Started) (H : Type) (enc : TypeId × Value → H) :
    ReturnsInHanded {} Try.checked os 6 .any (Rows.groupSquaresSpec.pre6 enc Try.prog Try.f6 Rows.groupSquaresRow.domain false) (Rows.groupSquaresSpec.post enc Try.prog Try.f6 false true false false) := by
  refine returnsInHanded_of_change (C := Try.checked) own_knob started (by kernel_rfl) Try.func6
    (ChangeSpec.witness6 (enc := enc) (C := Try.checked) false ⟨#[], #[.int .i64 0], []⟩ 8 (by kernel_rfl) (by kernel_rfl) (by kernel_rfl) (by kernel_rfl)) ?_
  intro W base args ds gs before hval0 hW hcnd _
  have hval : ∀ (j : Nat) t v, Try.f6.params[j]? = some t → args[j]? = some v → Value.okWide Try.prog W .any base t v := hval0
  have hW' := hW
  obtain ⟨p, q, hA0, hV, rfl, hfz, hnd⟩ := hW
  have hA : DataW.TrodAll enc Try.prog W 0 (fun _ => true) true Try.f6.params.toList args.toList ds p := hA0
  rw [Try.params6] at hA hval
  obtain ⟨v0, vs0, d0, ds0, p0, q0, hargs, rfl, rfl, h0, r0⟩ := trodAll_cons hA
  obtain ⟨rfl, rfl, rfl⟩ := trodAll_nil r0
  obtain rfl : args = #[v0] := by cases args; simp_all
  obtain ⟨rfl, rfl⟩ := trodVars_none hV
  obtain ⟨a0, rfl, rfl, rfl, w0⟩ := open_int Try.underlying3 (hval 0 3 v0 rfl rfl) h0
  clear hA0 hval0
  refine (groupSquares_walk a0 w0 W).mono fun e W' ⟨he, hb⟩ => ?_
  subst he
  exact ⟨_, rfl, law_post laid_out readable rfl rfl Try.underlying4 hW' rfl rfl rfl hb⟩

theorem over : Rows.groupSquaresRow.holds Try.pinned (OpenSpec.ofChange Rows.groupSquaresSpec) :=
  OpenClaim.holds_of_wide 6 Try.f6 rfl rfl rfl rfl rfl rfl rfl ⟨rfl, rfl, rfl, rfl, rfl⟩ rfl rfl rfl rfl rfl (by kernel_rfl) Try.func6 (by kernel_rfl)
    (of_decide_eq_true (by kernel_rfl)) (by unfold Func.isWrapper; first | (rw [if_pos (by decide +kernel)]; kernel_rfl) | (rw [if_neg (by decide +kernel)]; exact ⟨rfl, rfl⟩))
    (fun os started H enc _ => lifted os started H enc)

/-- the statement -/
theorem proved : Rows.GroupSquaresSaid := over
end groupSquares
end Go.Proofs.Ytlniibplocnipaa
