/- Are all prices right? -/
import Derived.Test.YticaeecfhfjjeaaTarMem
namespace Go.Proofs.Yticaeecfhfjjeaa
open Go.RowKit
set_option linter.unusedVariables false

def priceB (n : Int) : Bool := decide (0 ≤ n ∧ n ≤ 1048576)
theorem price_t {n : Int} (h : priceB n = true) : 0 ≤ n ∧ n ≤ 1048576 := by unfold priceB at h; simpa using h
theorem price_f {n : Int} (h : priceB n = false) : n < 0 ∨ 1048576 < n := by unfold priceB at h; simp at h; omega

theorem isPrice_any (n : Int) (w : World) :
    Calls Try.prog 21 #[.int .i64 n] w fun e w' => e = .returned (.bool (priceB n)) ∧ w = w' := by
  by_cases h1 : 0 ≤ n
  · by_cases h2 : n ≤ 1048576
    · have H := Lib.hid (show priceB n = true by unfold priceB; simp; omega)
      go_enter Try.func21, Try.ntmps21
      go_wp2
      go_ret
      exact ⟨ret_bool H.out.symm, rfl⟩
    · have H := Lib.hid (show priceB n = false by unfold priceB; simp; omega)
      go_enter Try.func21, Try.ntmps21
      go_wp2
      go_ret
      exact ⟨ret_bool H.out.symm, rfl⟩
  · have H := Lib.hid (show priceB n = false by unfold priceB; simp; omega)
    go_enter Try.func21, Try.ntmps21
    go_wp2
    go_ret
    exact ⟨ret_bool H.out.symm, rfl⟩

theorem rprice_any (n : Int) (w : World) :
    Calls Try.prog 24 #[.int .i64 n] w fun e w' => e = .returned (.bool (priceB n)) ∧ w = w' := by
  by_cases h1 : 0 ≤ n
  · by_cases h2 : n ≤ 1048576
    · have H := Lib.hid (show priceB n = true by unfold priceB; simp; omega)
      go_enter Try.func24, Try.ntmps24
      go_wp2
      go_ret
      exact ⟨ret_bool H.out.symm, rfl⟩
    · have H := Lib.hid (show priceB n = false by unfold priceB; simp; omega)
      go_enter Try.func24, Try.ntmps24
      go_wp2
      go_ret
      exact ⟨ret_bool H.out.symm, rfl⟩
  · have H := Lib.hid (show priceB n = false by unfold priceB; simp; omega)
    go_enter Try.func24, Try.ntmps24
    go_wp2
    go_ret
    exact ⟨ret_bool H.out.symm, rfl⟩

theorem all1_any (n : Int) (b : Nat) (w : World) (hc : w.cell? ⟨b, 0, none⟩ = some (.func (.func 21) #[] #[])) :
    Calls Try.prog 29 #[.int .i64 n, .pointer (some ⟨b, 0, none⟩)] w fun e w' => e = .returned (.bool (!priceB n)) ∧ w = w' := by
  go_enter Try.func29, Try.ntmps29
  go_wp2_with fail
  refine (isPrice_any _ _).mono ?_; rintro e w' ⟨rfl, rfl⟩
  go_wp2_with fail
  go_ret
  exact ⟨rfl, rfl⟩

/-- the index of the first element for which a test says no; -1 if there is none -/
def idx {α : Type} (q : α → Bool) : List α → Int
  | [] => -1
  | z :: zs => if q z then (if idx q zs < 0 then -1 else idx q zs + 1) else 0
theorem idx_ge {α : Type} (q : α → Bool) : ∀ zs : List α, -1 ≤ idx q zs ∧ idx q zs < zs.length
  | [] => by simp [idx]
  | z :: zs => by
    have := idx_ge q zs
    unfold idx; split
    · split <;> simp <;> omega
    · simp
theorem idx_all {α : Type} (q : α → Bool) : ∀ zs : List α, decide (0 ≤ idx q zs) = !zs.all q
  | [] => by simp [idx]
  | z :: zs => by
    have h := idx_all q zs
    have hg := idx_ge q zs
    unfold idx
    rw [List.all_cons]
    cases hz : q z with
    | false => simp
    | true =>
      rw [if_pos rfl, Bool.true_and, ← h]
      split
      · simp; omega
      · simp; omega
theorem idx_none {α : Type} {q : α → Bool} {zs : List α} (h : ∀ k, k < zs.length → ∀ d, q (zs.getD k d) = true) : idx q zs = -1 := by
  have h1 : zs.all q = true := by
    rw [List.all_eq_true]; intro x hx
    obtain ⟨k, hk, rfl⟩ := List.mem_iff_getElem.1 hx
    have := h k hk zs[k]
    rwa [List.getD_eq_getElem?_getD, List.getElem?_eq_getElem hk] at this
  have h2 := idx_all q zs
  rw [h1] at h2
  have := idx_ge q zs
  simp at h2; omega
theorem idx_some {α : Type} {q : α → Bool} : ∀ {zs : List α} {k : Nat} {d : α}, k < zs.length → (∀ j, j < k → q (zs.getD j d) = true) → q (zs.getD k d) = false → idx q zs = k
  | [], k, _, hk, _, _ => by simp at hk
  | z :: zs, 0, d, _, _, hq => by simp at hq; simp [idx, hq]
  | z :: zs, k + 1, d, hk, hp, hq => by
    have hz := hp 0 (by omega)
    simp at hz
    have := idx_some (zs := zs) (k := k) (d := d) (by simpa using hk) (fun j hj => by have := hp (j + 1) (by omega); simpa using this) (by simpa using hq)
    unfold idx; rw [hz, if_pos rfl, this, if_neg (by omega)]; simp

set_option maxHeartbeats 1000000 in
theorem index1_any (p : Option Addr) (n cap : Nat) (zs : List Int) (b : Nat) (w : World) (hz : Hid (IntsV w p n zs)) (hb : b < w.heap.size) (hc : w.cell? ⟨b, 0, none⟩ = some (.func (.func 21) #[] #[])) :
    Calls Try.prog 34 #[.slice p n cap, .func (.func 29) #[] #[.pointer (some ⟨b, 0, none⟩)]] w fun e w' => e = .returned (.int .i64 (idx priceB zs)) ∧ w = w' := by
  have hn := Lib.hid hz.out.1
  have hmax := hz.out.2.1
  go_enter Try.func34, Try.ntmps34
  go_wp2_with fail
  go_loop [8] (fun i => ∃ k : Nat, k ≤ n ∧ i = .int .i64 k ∧ Hid (∀ j, j < k → priceB (zs.getD j 0) = true)) (fun i => n - (intOf i).toNat)
  case atStart => exact ⟨0, by omega, rfl, Lib.hid fun j hj => by omega⟩
  case round =>
    obtain ⟨k, hk, rfl, hv⟩ := hrel
    by_cases hlt : k < n
    · obtain ⟨b', off, hp, hb', hcell⟩ := hz.out.at hlt
      subst hp
      obtain ⟨x, hx⟩ : ∃ x, zs.getD k 0 = x := ⟨_, rfl⟩
      rw [hx] at hcell
      have HX := Lib.hid hx; clear hx
      cases hq : priceB x with
      | true =>
        have hv' := Lib.hid (show ∀ j, j < k + 1 → priceB (zs.getD j 0) = true from fun j hj => by
          rcases Nat.lt_or_ge j k with h | h
          · exact hv.out j h
          · obtain rfl : j = k := by omega
            rw [HX.out]; exact hq)
        have HQ := Lib.hid hq; clear hq
        go_wp2_with fail
        refine (all1_any _ _ _ hc).mono ?_; rintro e w' ⟨rfl, rfl⟩
        rw [HQ.out]
        go_wp2_with fail
        go_round
        case rel => exact ⟨k + 1, by omega, by go_num, hv'⟩
        case measure => simp [intOf]; omega
      | false =>
        have hf := Lib.hid (idx_some (q := priceB) (zs := zs) (k := k) (d := 0) (by rw [← hn.out]; exact hlt) hv.out (by rw [HX.out]; exact hq))
        have HQ := Lib.hid hq; clear hq
        go_wp2_with fail
        refine (all1_any _ _ _ hc).mono ?_; rintro e w' ⟨rfl, rfl⟩
        rw [HQ.out]
        go_wp2_with fail
        go_ret
        exact ⟨ret_int hf.out.symm, rfl⟩
    · have hf := Lib.hid (idx_none (q := priceB) (zs := zs) (fun j hj d => by
        have := hv.out j (by have := hn.out; omega)
        rw [List.getD_eq_getElem?_getD, List.getElem?_eq_getElem hj] at this ⊢
        exact this))
      go_wp2_with fail
      go_ret
      exact ⟨ret_int hf.out.symm, rfl⟩

theorem contains1_any (p : Option Addr) (n cap : Nat) (zs : List Int) (b : Nat) (w : World) (hz : Hid (IntsV w p n zs)) (hb : b < w.heap.size) (hc : w.cell? ⟨b, 0, none⟩ = some (.func (.func 21) #[] #[])) :
    Calls Try.prog 28 #[.slice p n cap, .func (.func 29) #[] #[.pointer (some ⟨b, 0, none⟩)]] w fun e w' => e = .returned (.bool (!zs.all priceB)) ∧ w = w' := by
  have H := Lib.hid (idx_all priceB zs)
  go_enter Try.func28, Try.ntmps28
  go_wp2_with fail
  refine (index1_any p n cap zs b w hz hb hc).mono ?_; rintro e w' ⟨rfl, rfl⟩
  go_wp2_with fail
  go_ret
  exact ⟨ret_bool H.out, rfl⟩

theorem all_any (p : Option Addr) (n cap : Nat) (zs : List Int) (w : World) (hz : Hid (IntsV w p n zs)) :
    Calls Try.prog 20 #[.slice p n cap, .func (.func 21) #[] #[]] w fun e w' => e = .returned (.bool (zs.all priceB)) ∧ Below w.heap.size w w' := by
  go_enter Try.func20, Try.ntmps20
  go_wp2_with fail
  refine (contains1_any p n cap zs _ _ (Lib.hid (hz.out.below (bel_alloc1 _ _))) ?_ ?_).mono ?_
  · simp
  · simp
  rintro e w' ⟨rfl, rfl⟩
  go_wp2_with fail
  go_ret
  exact ⟨ret_bool (by simp), bel_alloc1 _ _⟩
end Go.Proofs.Yticaeecfhfjjeaa
