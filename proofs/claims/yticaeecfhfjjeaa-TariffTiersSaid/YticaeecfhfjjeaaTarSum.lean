/- tariff.sum, for lists whose sums are small; equality of lists. -/
import Derived.Test.YticaeecfhfjjeaaTarRChk
namespace Go.Proofs.Yticaeecfhfjjeaa
open Go.RowKit
set_option linter.unusedVariables false

theorem sum_take (zs : List Int) (k : Nat) (h : k < zs.length) : (zs.take (k + 1)).sum = (zs.take k).sum + zs.getD k 0 := by
  rw [List.take_succ_eq_append_getElem h, List.sum_append, List.getD_eq_getElem?_getD, List.getElem?_eq_getElem h]; simp
theorem sum_small (zs : List Int) (h : ∀ z ∈ zs, 0 ≤ z ∧ z ≤ 16777216) : ∀ k, 0 ≤ (zs.take k).sum ∧ (zs.take k).sum ≤ 16777216 * k
  | 0 => by simp
  | k + 1 => by
    have := sum_small zs h k
    by_cases hk : k < zs.length
    · rw [sum_take zs k hk]
      have := h _ (getD_mem (d := 0) hk)
      omega
    · rw [List.take_of_length_le (by omega)] at this ⊢; omega

set_option maxHeartbeats 1000000 in
theorem sum_any (p : Option Addr) (n cap : Nat) (zs : List Int) (w : World) (hz : Hid (IntsV w p n zs)) (hs : Hid (∀ z ∈ zs, 0 ≤ z ∧ z ≤ 16777216)) (hn : n ≤ 100) :
    Calls Try.prog 17 #[.slice p n cap] w fun e w' => e = .returned (.int .i64 zs.sum) ∧ w = w' := by
  have H1 := Lib.hid hz.out.1
  go_enter Try.func17, Try.ntmps17
  go_wp2_with fail
  go_loop [3, 8] (fun s i => ∃ (k : Nat) (v : Int), k ≤ n ∧ i = .int .i64 k ∧ s = .int .i64 v ∧ Hid (v = (zs.take k).sum)) (fun _ i => n - (intOf i).toNat)
  case atStart => exact ⟨0, 0, by omega, rfl, rfl, Lib.hid (by simp)⟩
  case round =>
    obtain ⟨k, v, hk, rfl, rfl, hv⟩ := hrel
    have hb := sum_small zs hs.out k
    rw [← hv.out] at hb
    obtain ⟨b0, b1⟩ := hb
    by_cases hlt : k < n
    · obtain ⟨b', off, hp, hb', hcell⟩ := hz.out.at hlt
      subst hp
      have hx0 := hs.out _ (getD_mem (d := 0) (zs := zs) (k := k) (by rw [← H1.out]; exact hlt))
      have HT := Lib.hid (sum_take zs k (by rw [← H1.out]; exact hlt))
      obtain ⟨x, hx⟩ : ∃ x, zs.getD k 0 = x := ⟨_, rfl⟩
      rw [hx] at hcell hx0 HT
      clear hx
      obtain ⟨x0, x1⟩ := hx0
      have b2 : v ≤ 1677721600 := by omega
      go_wp2_with fail
      go_round
      case rel => exact ⟨k + 1, v + x, by omega, by go_num, rfl, Lib.hid (by rw [HT.out, hv.out])⟩
      case measure => simp [intOf]; omega
    · go_wp2_with fail
      go_ret
      exact ⟨ret_int (by rw [hv.out, List.take_of_length_le (by have := H1.out; omega)]), rfl⟩

set_option maxHeartbeats 1000000 in
theorem same_any (p q : Option Addr) (n cap m cap' : Nat) (zs ys : List Int) (w : World) (hz : Hid (IntsV w p n zs)) (hy : Hid (IntsV w q m ys)) :
    Calls Try.prog 16 #[.slice p n cap, .slice q m cap'] w fun e w' => e = .returned (.bool (zs == ys)) ∧ Below w.heap.size w w' := by
  have H1 := Lib.hid hz.out.1
  have H2 := Lib.hid hy.out.1
  have m1 := hz.out.2.1
  by_cases hnm : n = m
  case neg =>
    have HE : Hid ((zs == ys) = false) := Lib.hid (by
      rw [beq_eq_false_iff_ne]; intro e; apply hnm; rw [H1.out, H2.out, e])
    have a4 : ((n : Int) != (m : Int)) = true := by simp; omega
    go_enter Try.func16, Try.ntmps16
    go_wp2_with fail
    go_ret
    exact ⟨ret_bool HE.out.symm, Below.refl _ _⟩
  case pos =>
  subst hnm
  go_enter Try.func16, Try.ntmps16
  go_wp2_with fail
  go_loopw [5] (fun i wr => ∃ k : Nat, k ≤ n ∧ i = .int .i64 k ∧ Hid (∀ j, j < k → zs.getD j 0 = ys.getD j 0) ∧ Hid (Below w.heap.size w wr)) (fun i _ => n - (intOf i).toNat)
  case atStart => exact ⟨0, by omega, rfl, Lib.hid fun j hj => by omega, Lib.hid (Below.refl _ _)⟩
  case round =>
    obtain ⟨k, hk, rfl, hv, HB⟩ := hrel
    by_cases hlt : k < n
    · obtain ⟨b', off, hp, hb', hcell⟩ := (hz.out.below HB.out).at hlt
      obtain ⟨b2, off2, hp2, hb2, hcell2⟩ := (hy.out.below HB.out).at hlt
      subst hp hp2
      obtain ⟨x, hx⟩ : ∃ x, zs.getD k 0 = x := ⟨_, rfl⟩
      obtain ⟨y, hyy⟩ : ∃ x, ys.getD k 0 = x := ⟨_, rfl⟩
      rw [hx] at hcell; rw [hyy] at hcell2
      have HX := Lib.hid hx; have HY := Lib.hid hyy; clear hx hyy
      by_cases he : x = y
      · subst he
        have hv' := Lib.hid (show ∀ j, j < k + 1 → zs.getD j 0 = ys.getD j 0 from fun j hj => by
          rcases Nat.lt_or_ge j k with h | h
          · exact hv.out j h
          · obtain rfl : j = k := by omega
            rw [HX.out, HY.out])
        go_wp2_with fail
        go_quiet (fail)
        go_wp2_with fail
        go_roundw
        case rel => exact ⟨k + 1, by omega, by go_num, hv', Lib.hid (bel_dn HB.out _)⟩
        case measure => simp [intOf]; omega
      · have HE : Hid ((zs == ys) = false) := Lib.hid (by
          rw [beq_eq_false_iff_ne]; intro e; apply he; rw [← HX.out, ← HY.out, e])
        have hne : (x != y) = true := by simp [he]
        clear he
        go_wp2_with fail
        go_quiet (fail)
        go_wp2_with fail
        go_ret
        exact ⟨ret_bool HE.out.symm, bel_dn HB.out _⟩
    · have HE : Hid ((zs == ys) = true) := Lib.hid (by
        rw [beq_iff_eq]
        apply List.ext_getElem (by rw [← H1.out, ← H2.out])
        intro i h1 h2
        have := hv.out i (by have := H1.out; omega)
        rwa [List.getD_eq_getElem?_getD, List.getD_eq_getElem?_getD, List.getElem?_eq_getElem h1, List.getElem?_eq_getElem h2] at this)
      go_wp2_with fail
      go_ret
      exact ⟨ret_bool HE.out.symm, HB.out⟩
end Go.Proofs.Yticaeecfhfjjeaa
