/- For all numbers and texts, valid or not, Begin, Ask and Answer match the specification. No condition. -/
import Derived.Test.YthhlpkppcbillaaGreatDoorRef15
import Derived.Test.YthhlpkppcbillaaGreatDoorSigCard
namespace Go.Proofs.YthhlpkppcbillaaGreatDoor
open Go.ChangeShapes Go.WideShapes Go.ChangeAt Go.RowKit Go.WideElems Go.Shelf
set_option linter.unusedVariables false
set_option linter.unusedSimpArgs false

theorem txs_of {w : World} {p : Option Addr} {m c : Nat} {bs : List Int} (hz : SrcW w p m c bs) (hr : ∀ z ∈ bs, 0 ≤ z ∧ z ≤ 255) (hm : m ≤ 600) : txOk bs := ⟨by have := hz.len; omega, hr⟩
set_option maxRecDepth 100000 in
set_option maxHeartbeats 4000000 in
theorem blindSpec_a (key r : Int) (p : Option Addr) (m cp : Nat) (bs : List Int) (u v x n c : Int) (w : World) (hz : Hid (SrcW w p m cp bs)) (hk : Hid (KeysAt w)) (hm : ¬ m ≤ 600) : Calls Tryz.prog 3 #[.int .i64 key, .int .i64 r, .slice p m cp, .int .i64 u, .int .i64 v, .int .i64 x, .int .i64 n, .int .i64 c] w fun q w' => q = .returned (.bool true) ∧ Below w.heap.size w w' := by
  have B0 := Lib.hid (Below.refl w.heap.size w)
  go_enter Tryz.func3, Tryz.ntmps3
  go_wp2_with (first
    | (go_at_call 5; ((with_reducible refine (sane15_any _ (Lib.hid (hk.out.below B0.out))).mono ?_); rintro q W1 ⟨rfl, hb⟩; have B1 := Lib.hid (bel_trans B0.out hb); clear hb)))
  go_ret
  exact ⟨rfl, B1.out⟩
set_option maxRecDepth 100000 in
set_option maxHeartbeats 4000000 in
theorem blindSpec_non (key r : Int) (p : Option Addr) (m cp : Nat) (bs : List Int) (u v x n c : Int) (w : World) (hz : Hid (SrcW w p m cp bs)) (hk : Hid (KeysAt w)) (hm : m ≤ 600) (hbad : Hid ((elB key && elB r) = false)) (hn : Hid (secB n = false)) (hans : Hid ((secB x && secB n) = false)) : Calls Tryz.prog 3 #[.int .i64 key, .int .i64 r, .slice p m cp, .int .i64 u, .int .i64 v, .int .i64 x, .int .i64 n, .int .i64 c] w fun q w' => q = .returned (.bool true) ∧ Below w.heap.size w w' := by
  have B0 := Lib.hid (Below.refl w.heap.size w)
  go_enter Tryz.func3, Tryz.ntmps3
  go_wp2_with (first
    | (go_at_call 5; ((with_reducible refine (sane15_any _ (Lib.hid (hk.out.below B0.out))).mono ?_); rintro q W1 ⟨rfl, hb⟩; have B1 := Lib.hid (bel_trans B0.out hb); clear hb))
    | (go_at_call 6; ((with_reducible refine (begin_no n _ hn).mono ?_); rintro q W2 ⟨rfl, hb⟩; have B2 := Lib.hid (bel_trans B1.out hb); clear hb))
    | (go_at_call 7; ((with_reducible refine (rbegin_no n _ hn).mono ?_); rintro q w' ⟨rfl, rfl⟩))
    | (go_at_call 8; ((with_reducible refine (ask_no key r u v p m cp _ hbad).mono ?_); rintro q W3 ⟨rfl, hb⟩; have B3 := Lib.hid (bel_trans B2.out hb); clear hb))
    | (go_at_call 9; ((with_reducible refine (rask_no key r u v p m cp _ hbad).mono ?_); rintro q W4 ⟨rfl, hb⟩; have B4 := Lib.hid (bel_trans B3.out hb); clear hb))
    | (go_at_call 10; ((with_reducible refine (answer_no x n c _ hans).mono ?_); rintro q W5 ⟨rfl, hb⟩; have B5 := Lib.hid (bel_trans B4.out hb); clear hb))
    | (go_at_call 11; ((with_reducible refine (ranswer_no x n c _ hans).mono ?_); rintro q w' ⟨rfl, rfl⟩)))
  go_ret
  exact ⟨rfl, B5.out⟩
set_option maxRecDepth 100000 in
set_option maxHeartbeats 4000000 in
theorem blindSpec_nox (key r : Int) (p : Option Addr) (m cp : Nat) (bs : List Int) (u v x n c : Int) (w : World) (hz : Hid (SrcW w p m cp bs)) (hk : Hid (KeysAt w)) (hm : m ≤ 600) (hbad : Hid ((elB key && elB r) = false)) (hn : Hid (secB n = true)) (R : Int) (HR : Hid (IsPw 4 n R)) (hans : Hid ((secB x && secB n) = false)) : Calls Tryz.prog 3 #[.int .i64 key, .int .i64 r, .slice p m cp, .int .i64 u, .int .i64 v, .int .i64 x, .int .i64 n, .int .i64 c] w fun q w' => q = .returned (.bool true) ∧ Below w.heap.size w w' := by
  have B0 := Lib.hid (Below.refl w.heap.size w)
  go_enter Tryz.func3, Tryz.ntmps3
  go_wp2_with (first
    | (go_at_call 5; ((with_reducible refine (sane15_any _ (Lib.hid (hk.out.below B0.out))).mono ?_); rintro q W1 ⟨rfl, hb⟩; have B1 := Lib.hid (bel_trans B0.out hb); clear hb))
    | (go_at_call 6; ((with_reducible refine (begin_yes n R _ hn HR).mono ?_); rintro q W2 ⟨rfl, hb⟩; have B2 := Lib.hid (bel_trans B1.out hb); clear hb))
    | (go_at_call 7; ((with_reducible refine (rbegin_yes n R _ hn HR).mono ?_); rintro q w' ⟨rfl, rfl⟩))
    | (go_at_call 8; ((with_reducible refine (ask_no key r u v p m cp _ hbad).mono ?_); rintro q W3 ⟨rfl, hb⟩; have B3 := Lib.hid (bel_trans B2.out hb); clear hb))
    | (go_at_call 9; ((with_reducible refine (rask_no key r u v p m cp _ hbad).mono ?_); rintro q W4 ⟨rfl, hb⟩; have B4 := Lib.hid (bel_trans B3.out hb); clear hb))
    | (go_at_call 10; ((with_reducible refine (answer_no x n c _ hans).mono ?_); rintro q W5 ⟨rfl, hb⟩; have B5 := Lib.hid (bel_trans B4.out hb); clear hb))
    | (go_at_call 11; ((with_reducible refine (ranswer_no x n c _ hans).mono ?_); rintro q w' ⟨rfl, rfl⟩)))
  go_ret
  exact ⟨rfl, B5.out⟩
set_option maxRecDepth 100000 in
set_option maxHeartbeats 4000000 in
theorem blindSpec_noy (key r : Int) (p : Option Addr) (m cp : Nat) (bs : List Int) (u v x n c : Int) (w : World) (hz : Hid (SrcW w p m cp bs)) (hk : Hid (KeysAt w)) (hm : m ≤ 600) (hbad : Hid ((elB key && elB r) = false)) (hn : Hid (secB n = true)) (R : Int) (HR : Hid (IsPw 4 n R)) (hx1 : Hid (secB x = true)) (y s : Int) (HY : Hid (modQ (c * x) = y)) (HY2 : Hid (tmsQ c x = y)) (HS : Hid (modQ (n + y) = s)) (HS2 : Hid ((n + y) % 1073741789 = s)) : Calls Tryz.prog 3 #[.int .i64 key, .int .i64 r, .slice p m cp, .int .i64 u, .int .i64 v, .int .i64 x, .int .i64 n, .int .i64 c] w fun q w' => q = .returned (.bool true) ∧ Below w.heap.size w w' := by
  have B0 := Lib.hid (Below.refl w.heap.size w)
  go_enter Tryz.func3, Tryz.ntmps3
  go_wp2_with (first
    | (go_at_call 5; ((with_reducible refine (sane15_any _ (Lib.hid (hk.out.below B0.out))).mono ?_); rintro q W1 ⟨rfl, hb⟩; have B1 := Lib.hid (bel_trans B0.out hb); clear hb))
    | (go_at_call 6; ((with_reducible refine (begin_yes n R _ hn HR).mono ?_); rintro q W2 ⟨rfl, hb⟩; have B2 := Lib.hid (bel_trans B1.out hb); clear hb))
    | (go_at_call 7; ((with_reducible refine (rbegin_yes n R _ hn HR).mono ?_); rintro q w' ⟨rfl, rfl⟩))
    | (go_at_call 8; ((with_reducible refine (ask_no key r u v p m cp _ hbad).mono ?_); rintro q W3 ⟨rfl, hb⟩; have B3 := Lib.hid (bel_trans B2.out hb); clear hb))
    | (go_at_call 9; ((with_reducible refine (rask_no key r u v p m cp _ hbad).mono ?_); rintro q W4 ⟨rfl, hb⟩; have B4 := Lib.hid (bel_trans B3.out hb); clear hb))
    | (go_at_call 10; ((with_reducible refine (answer_yes x n c y s _ hx1 hn HY HS).mono ?_); rintro q W5 ⟨rfl, hb⟩; have B5 := Lib.hid (bel_trans B4.out hb); clear hb))
    | (go_at_call 11; ((with_reducible refine (ranswer_yes x n c y s _ hx1 hn HY2 HS2).mono ?_); rintro q w' ⟨rfl, rfl⟩)))
  go_ret
  exact ⟨rfl, B5.out⟩
set_option maxRecDepth 100000 in
set_option maxHeartbeats 4000000 in
theorem blindSpec_yesn (key r : Int) (p : Option Addr) (m cp : Nat) (bs : List Int) (u v x n c : Int) (w : World) (hz : Hid (SrcW w p m cp bs)) (hk : Hid (KeysAt w)) (hm : m ≤ 600) (hk1 : Hid (elB key = true)) (hr1 : Hid (elB r = true)) (HT : Hid (txOk bs)) (pt h d mv : Int) (HBP : Hid (IsBp key r u v pt)) (HCH : Hid (IsCh pt key bs h)) (HC : Hid (modQ (h + v) = d)) (HMV : Hid (modQ v = mv)) (HC2 : Hid ((h + mv) % 1073741789 = d)) (hn : Hid (secB n = false)) (hans : Hid ((secB x && secB n) = false)) : Calls Tryz.prog 3 #[.int .i64 key, .int .i64 r, .slice p m cp, .int .i64 u, .int .i64 v, .int .i64 x, .int .i64 n, .int .i64 c] w fun q w' => q = .returned (.bool true) ∧ Below w.heap.size w w' := by
  have B0 := Lib.hid (Below.refl w.heap.size w)
  go_enter Tryz.func3, Tryz.ntmps3
  go_wp2_with (first
    | (go_at_call 5; ((with_reducible refine (sane15_any _ (Lib.hid (hk.out.below B0.out))).mono ?_); rintro q W1 ⟨rfl, hb⟩; have B1 := Lib.hid (bel_trans B0.out hb); clear hb))
    | (go_at_call 6; ((with_reducible refine (begin_no n _ hn).mono ?_); rintro q W2 ⟨rfl, hb⟩; have B2 := Lib.hid (bel_trans B1.out hb); clear hb))
    | (go_at_call 7; ((with_reducible refine (rbegin_no n _ hn).mono ?_); rintro q w' ⟨rfl, rfl⟩))
    | (go_at_call 8; ((with_reducible refine (ask_yes key r u v pt h d p m cp bs _ hk1 hr1 HT (Lib.hid (hz.out.below B2.out)) (Lib.hid (hk.out.below B2.out)) HBP HCH HC).mono ?_); rintro q W3 ⟨rfl, hb⟩; have B3 := Lib.hid (bel_trans B2.out hb); clear hb))
    | (go_at_call 9; ((with_reducible refine (rask_yes key r u v pt h d mv p m cp bs _ hk1 hr1 HT (Lib.hid (hz.out.below B3.out)) HBP HCH HMV HC2).mono ?_); rintro q W4 ⟨rfl, hb⟩; have B4 := Lib.hid (bel_trans B3.out hb); clear hb))
    | (go_at_call 10; ((with_reducible refine (answer_no x n c _ hans).mono ?_); rintro q W5 ⟨rfl, hb⟩; have B5 := Lib.hid (bel_trans B4.out hb); clear hb))
    | (go_at_call 11; ((with_reducible refine (ranswer_no x n c _ hans).mono ?_); rintro q w' ⟨rfl, rfl⟩)))
  go_ret
  exact ⟨rfl, B5.out⟩
set_option maxRecDepth 100000 in
set_option maxHeartbeats 4000000 in
theorem blindSpec_yesx (key r : Int) (p : Option Addr) (m cp : Nat) (bs : List Int) (u v x n c : Int) (w : World) (hz : Hid (SrcW w p m cp bs)) (hk : Hid (KeysAt w)) (hm : m ≤ 600) (hk1 : Hid (elB key = true)) (hr1 : Hid (elB r = true)) (HT : Hid (txOk bs)) (pt h d mv : Int) (HBP : Hid (IsBp key r u v pt)) (HCH : Hid (IsCh pt key bs h)) (HC : Hid (modQ (h + v) = d)) (HMV : Hid (modQ v = mv)) (HC2 : Hid ((h + mv) % 1073741789 = d)) (hn : Hid (secB n = true)) (R : Int) (HR : Hid (IsPw 4 n R)) (hans : Hid ((secB x && secB n) = false)) : Calls Tryz.prog 3 #[.int .i64 key, .int .i64 r, .slice p m cp, .int .i64 u, .int .i64 v, .int .i64 x, .int .i64 n, .int .i64 c] w fun q w' => q = .returned (.bool true) ∧ Below w.heap.size w w' := by
  have B0 := Lib.hid (Below.refl w.heap.size w)
  go_enter Tryz.func3, Tryz.ntmps3
  go_wp2_with (first
    | (go_at_call 5; ((with_reducible refine (sane15_any _ (Lib.hid (hk.out.below B0.out))).mono ?_); rintro q W1 ⟨rfl, hb⟩; have B1 := Lib.hid (bel_trans B0.out hb); clear hb))
    | (go_at_call 6; ((with_reducible refine (begin_yes n R _ hn HR).mono ?_); rintro q W2 ⟨rfl, hb⟩; have B2 := Lib.hid (bel_trans B1.out hb); clear hb))
    | (go_at_call 7; ((with_reducible refine (rbegin_yes n R _ hn HR).mono ?_); rintro q w' ⟨rfl, rfl⟩))
    | (go_at_call 8; ((with_reducible refine (ask_yes key r u v pt h d p m cp bs _ hk1 hr1 HT (Lib.hid (hz.out.below B2.out)) (Lib.hid (hk.out.below B2.out)) HBP HCH HC).mono ?_); rintro q W3 ⟨rfl, hb⟩; have B3 := Lib.hid (bel_trans B2.out hb); clear hb))
    | (go_at_call 9; ((with_reducible refine (rask_yes key r u v pt h d mv p m cp bs _ hk1 hr1 HT (Lib.hid (hz.out.below B3.out)) HBP HCH HMV HC2).mono ?_); rintro q W4 ⟨rfl, hb⟩; have B4 := Lib.hid (bel_trans B3.out hb); clear hb))
    | (go_at_call 10; ((with_reducible refine (answer_no x n c _ hans).mono ?_); rintro q W5 ⟨rfl, hb⟩; have B5 := Lib.hid (bel_trans B4.out hb); clear hb))
    | (go_at_call 11; ((with_reducible refine (ranswer_no x n c _ hans).mono ?_); rintro q w' ⟨rfl, rfl⟩)))
  go_ret
  exact ⟨rfl, B5.out⟩
set_option maxRecDepth 100000 in
set_option maxHeartbeats 4000000 in
theorem blindSpec_yesy (key r : Int) (p : Option Addr) (m cp : Nat) (bs : List Int) (u v x n c : Int) (w : World) (hz : Hid (SrcW w p m cp bs)) (hk : Hid (KeysAt w)) (hm : m ≤ 600) (hk1 : Hid (elB key = true)) (hr1 : Hid (elB r = true)) (HT : Hid (txOk bs)) (pt h d mv : Int) (HBP : Hid (IsBp key r u v pt)) (HCH : Hid (IsCh pt key bs h)) (HC : Hid (modQ (h + v) = d)) (HMV : Hid (modQ v = mv)) (HC2 : Hid ((h + mv) % 1073741789 = d)) (hn : Hid (secB n = true)) (R : Int) (HR : Hid (IsPw 4 n R)) (hx1 : Hid (secB x = true)) (y s : Int) (HY : Hid (modQ (c * x) = y)) (HY2 : Hid (tmsQ c x = y)) (HS : Hid (modQ (n + y) = s)) (HS2 : Hid ((n + y) % 1073741789 = s)) : Calls Tryz.prog 3 #[.int .i64 key, .int .i64 r, .slice p m cp, .int .i64 u, .int .i64 v, .int .i64 x, .int .i64 n, .int .i64 c] w fun q w' => q = .returned (.bool true) ∧ Below w.heap.size w w' := by
  have B0 := Lib.hid (Below.refl w.heap.size w)
  go_enter Tryz.func3, Tryz.ntmps3
  go_wp2_with (first
    | (go_at_call 5; ((with_reducible refine (sane15_any _ (Lib.hid (hk.out.below B0.out))).mono ?_); rintro q W1 ⟨rfl, hb⟩; have B1 := Lib.hid (bel_trans B0.out hb); clear hb))
    | (go_at_call 6; ((with_reducible refine (begin_yes n R _ hn HR).mono ?_); rintro q W2 ⟨rfl, hb⟩; have B2 := Lib.hid (bel_trans B1.out hb); clear hb))
    | (go_at_call 7; ((with_reducible refine (rbegin_yes n R _ hn HR).mono ?_); rintro q w' ⟨rfl, rfl⟩))
    | (go_at_call 8; ((with_reducible refine (ask_yes key r u v pt h d p m cp bs _ hk1 hr1 HT (Lib.hid (hz.out.below B2.out)) (Lib.hid (hk.out.below B2.out)) HBP HCH HC).mono ?_); rintro q W3 ⟨rfl, hb⟩; have B3 := Lib.hid (bel_trans B2.out hb); clear hb))
    | (go_at_call 9; ((with_reducible refine (rask_yes key r u v pt h d mv p m cp bs _ hk1 hr1 HT (Lib.hid (hz.out.below B3.out)) HBP HCH HMV HC2).mono ?_); rintro q W4 ⟨rfl, hb⟩; have B4 := Lib.hid (bel_trans B3.out hb); clear hb))
    | (go_at_call 10; ((with_reducible refine (answer_yes x n c y s _ hx1 hn HY HS).mono ?_); rintro q W5 ⟨rfl, hb⟩; have B5 := Lib.hid (bel_trans B4.out hb); clear hb))
    | (go_at_call 11; ((with_reducible refine (ranswer_yes x n c y s _ hx1 hn HY2 HS2).mono ?_); rintro q w' ⟨rfl, rfl⟩)))
  go_ret
  exact ⟨rfl, B5.out⟩
theorem blindSpec_walk (key r : Int) (p : Option Addr) (m cp : Nat) (bs : List Int) (u v x n c : Int) (w : World) (hz : Hid (SrcW w p m cp bs)) (hk : Hid (KeysAt w)) (hrr : ∀ z ∈ bs, 0 ≤ z ∧ z ≤ 255) : Calls Tryz.prog 3 #[.int .i64 key, .int .i64 r, .slice p m cp, .int .i64 u, .int .i64 v, .int .i64 x, .int .i64 n, .int .i64 c] w fun q w' => q = .returned (.bool true) ∧ Below w.heap.size w w' := by
  by_cases hm : m ≤ 600
  case neg => exact blindSpec_a key r p m cp bs u v x n c w hz hk hm
  have HT := Lib.hid (txs_of hz.out hrr hm)
  cases h12 : (elB key && elB r) with
  | false =>
    cases hn : secB n with
    | false => exact blindSpec_non key r p m cp bs u v x n c w hz hk hm (Lib.hid h12) (Lib.hid hn) (Lib.hid (by rw [hn, Bool.and_false]))
    | true =>
      obtain ⟨R, hR⟩ := isPw 4 n
      cases hx : secB x with
      | false => exact blindSpec_nox key r p m cp bs u v x n c w hz hk hm (Lib.hid h12) (Lib.hid hn) R (Lib.hid hR) (Lib.hid (by rw [hx]; rfl))
      | true => exact blindSpec_noy key r p m cp bs u v x n c w hz hk hm (Lib.hid h12) (Lib.hid hn) R (Lib.hid hR) (Lib.hid hx) _ _ (Lib.hid rfl) (Lib.hid (by unfold tmsQ modQ; rw [← Int.mul_emod])) (Lib.hid rfl) (Lib.hid rfl)
  | true =>
    have h1 := (Bool.and_eq_true_iff.1 h12).1
    have h2 := (Bool.and_eq_true_iff.1 h12).2
    obtain ⟨pt, hp⟩ := isBp key r u v
    obtain ⟨h, hh⟩ := isCh pt key bs
    cases hn : secB n with
    | false => exact blindSpec_yesn key r p m cp bs u v x n c w hz hk hm (Lib.hid h1) (Lib.hid h2) HT pt h _ _ (Lib.hid hp) (Lib.hid hh) (Lib.hid rfl) (Lib.hid rfl) (Lib.hid (by unfold modQ; omega)) (Lib.hid hn) (Lib.hid (by rw [hn, Bool.and_false]))
    | true =>
      obtain ⟨R, hR⟩ := isPw 4 n
      cases hx : secB x with
      | false => exact blindSpec_yesx key r p m cp bs u v x n c w hz hk hm (Lib.hid h1) (Lib.hid h2) HT pt h _ _ (Lib.hid hp) (Lib.hid hh) (Lib.hid rfl) (Lib.hid rfl) (Lib.hid (by unfold modQ; omega)) (Lib.hid hn) R (Lib.hid hR) (Lib.hid (by rw [hx]; rfl))
      | true => exact blindSpec_yesy key r p m cp bs u v x n c w hz hk hm (Lib.hid h1) (Lib.hid h2) HT pt h _ _ (Lib.hid hp) (Lib.hid hh) (Lib.hid rfl) (Lib.hid rfl) (Lib.hid (by unfold modQ; omega)) (Lib.hid hn) R (Lib.hid hR) (Lib.hid hx) _ _ (Lib.hid rfl) (Lib.hid (by unfold tmsQ modQ; rw [← Int.mul_emod])) (Lib.hid rfl) (Lib.hid rfl)

namespace blindSpec
theorem readable : ∀ t ∈ Tryz.f3.params.toList, Tryz.prog.readableRec t = true ∧ t < Tryz.prog.types.size := by
  rw [Tryz.params3]
  intro t ht
  simp only [List.mem_cons, List.not_mem_nil, or_false] at ht
  rcases ht with rfl | rfl | rfl | rfl | rfl | rfl | rfl | rfl
  all_goals exact ⟨by kernel_rfl, by decide +kernel⟩

set_option maxRecDepth 100000 in
theorem lifted (os : Os) (started : os.Started) (H : Type) (enc : TypeId × Value → H) :
    ReturnsInHanded {} Tryz.checked os 3 .any (fun w args => (Rows.blindSpecSpec.pre enc Tryz.prog Tryz.f3 [] false w args ∧ laidMetH Tryz.prog laidK w) ∧ sizedMet enc Tryz.prog Tryz.f3 (OpenSpec.ofChange Rows.blindSpecSpec) false w args)
      (Rows.blindSpecSpec.post enc Tryz.prog Tryz.f3 false true false false) := by
  refine returnsInHanded_of_change_and (C := Tryz.checked) (X := fun w _ => laidMetH Tryz.prog laidK w) (fun _ _ _ hh h => h.of_heap hh) own_knob started (by kernel_rfl) Tryz.func3
    (ChangeSpec.witness_shaped (enc := enc) (C := Tryz.checked) (os := os) (X := fun w _ => laidMetH Tryz.prog laidK w) false (World.doorLaid Tryz.prog 400 os) #[.int .i64 0, .int .i64 0, .slice none 0 0, .int .i64 0, .int .i64 0, .int .i64 0, .int .i64 0, .int .i64 0] 8 rfl (World.shaped_of_RefB (by kernel_rfl) (by kernel_rfl)) (by kernel_rfl) (by kernel_rfl) (by kernel_rfl) (door_met os _)) ?_
  intro W base args ds gs before hval0 hW _ _ hL _
  have hval : ∀ (j : Nat) t v, Tryz.f3.params[j]? = some t → args[j]? = some v → Value.okWide Tryz.prog W .any base t v := hval0
  have hW' := hW
  obtain ⟨p, q, hA0, hV, rfl, hfz, hnd⟩ := hW
  have hA : DataW.TrodAll enc Tryz.prog W 0 (fun _ => true) true Tryz.f3.params.toList args.toList ds p := hA0
  rw [Tryz.params3] at hA hval
  obtain ⟨v0, vs0, d0, ds0, p0, q0, hargs, rfl, rfl, h0, r0⟩ := trodAll_cons hA
  obtain ⟨v1, vs1, d1, ds1, p1, q1, rfl, rfl, rfl, h1, r1⟩ := trodAll_cons r0
  obtain ⟨v2, vs2, d2, ds2, p2, q2, rfl, rfl, rfl, h2, r2⟩ := trodAll_cons r1
  obtain ⟨v3, vs3, d3, ds3, p3, q3, rfl, rfl, rfl, h3, r3⟩ := trodAll_cons r2
  obtain ⟨v4, vs4, d4, ds4, p4, q4, rfl, rfl, rfl, h4, r4⟩ := trodAll_cons r3
  obtain ⟨v5, vs5, d5, ds5, p5, q5, rfl, rfl, rfl, h5, r5⟩ := trodAll_cons r4
  obtain ⟨v6, vs6, d6, ds6, p6, q6, rfl, rfl, rfl, h6, r6⟩ := trodAll_cons r5
  obtain ⟨v7, vs7, d7, ds7, p7, q7, rfl, rfl, rfl, h7, r7⟩ := trodAll_cons r6
  obtain ⟨rfl, rfl, rfl⟩ := trodAll_nil r7
  obtain rfl : args = #[v0, v1, v2, v3, v4, v5, v6, v7] := by cases args; simp_all
  obtain ⟨rfl, rfl⟩ := trodVars_none hV
  obtain ⟨a0, rfl, rfl, rfl, w0⟩ := open_int Tryz.underlying3 (hval 0 3 v0 rfl rfl) h0
  obtain ⟨a1, rfl, rfl, rfl, w1⟩ := open_int Tryz.underlying3 (hval 1 3 v1 rfl rfl) h1
  obtain ⟨s2, n2, c2, z2, rfl, w2, x2, y2, u2⟩ := open_src Tryz.underlying22 Tryz.underlying5 (by kernel_rfl) (hval 2 22 v2 rfl rfl) h2
  obtain ⟨a3, rfl, rfl, rfl, w3⟩ := open_int Tryz.underlying3 (hval 3 3 v3 rfl rfl) h3
  obtain ⟨a4, rfl, rfl, rfl, w4⟩ := open_int Tryz.underlying3 (hval 4 3 v4 rfl rfl) h4
  obtain ⟨a5, rfl, rfl, rfl, w5⟩ := open_int Tryz.underlying3 (hval 5 3 v5 rfl rfl) h5
  obtain ⟨a6, rfl, rfl, rfl, w6⟩ := open_int Tryz.underlying3 (hval 6 3 v6 rfl rfl) h6
  obtain ⟨a7, rfl, rfl, rfl, w7⟩ := open_int Tryz.underlying3 (hval 7 3 v7 rfl rfl) h7
  have hK := of_laid hL
  clear hA0 hval0
  refine (blindSpec_walk a0 a1 s2 n2 c2 z2 a3 a4 a5 a6 a7 W (Lib.hid w2) (Lib.hid hK) x2).mono fun e W' ⟨he, hb⟩ => ?_
  subst he
  exact ⟨_, rfl, law_post laid_out readable rfl rfl Tryz.underlying4 hW' rfl rfl rfl hb⟩

theorem over : Rows.blindSpecRow.holds Tryz.pinned (OpenSpec.ofChange Rows.blindSpecSpec) :=
  OpenClaim.holds_of_wide 3 Tryz.f3 rfl rfl rfl rfl rfl rfl rfl ⟨rfl, rfl, rfl, rfl, rfl⟩ rfl rfl rfl rfl rfl (by kernel_rfl) Tryz.func3 (by kernel_rfl)
    (of_decide_eq_true (by kernel_rfl)) (by unfold Func.isWrapper; first | (rw [if_pos (by decide +kernel)]; kernel_rfl) | (rw [if_neg (by decide +kernel)]; exact ⟨rfl, rfl⟩))
    (fun os started H enc _ => lifted os started H enc)

/-- the statement: the tied card -/
theorem proved : Rows.BlindSpecCardSaid :=
  Claim7.holds_tied_plain_at .later [] [.data] true (true, "f447158e6a39751497c68a2ed9a84fd5f99f8ca2eebfe285d534610ba04c3d43") true
    over (fun _ h => by cases h) (by kernel_rfl) (fun _ h => by cases h) blindSpec_row_tie rfl ⟨rfl, rfl⟩ (by kernel_rfl) rfl
    (fun f fn hf hfn => by
      obtain rfl : f = 3 := Option.some.inj ((show Tryz.prog.funcNamed "franking/frankinglaw15.BlindSpec" = some 3 by kernel_rfl).symm.trans hf) |>.symm
      obtain rfl : fn = Tryz.f3 := (Option.some.inj (Tryz.func3.symm.trans hfn)).symm
      exact ⟨by kernel_rfl, fun j t ht => by
        rw [Tryz.params3] at ht
        have hm : t ∈ [3, 3, 22, 3, 3, 3, 3, 3] := by simpa using Array.mem_of_getElem? ht
        have hall : ([3, 3, 22, 3, 3, 3, 3, 3].all fun u => !Tryz.prog.wantsStandIn u) = true := by kernel_rfl
        exact (show Tryz.prog.wantsStandIn t = false by simpa using List.all_eq_true.1 hall t hm)⟩)
    (by kernel_rfl)
end blindSpec
end Go.Proofs.YthhlpkppcbillaaGreatDoor
