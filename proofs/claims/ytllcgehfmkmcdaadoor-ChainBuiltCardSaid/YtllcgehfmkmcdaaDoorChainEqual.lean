/- Chains of one length with one head are equal, or two different texts have one digest. No condition. -/
import Derived.Test.YtllcgehfmkmcdaaDoorChnSan
import Derived.Test.YtllcgehfmkmcdaaDoorChnSame
import Derived.Test.YtllcgehfmkmcdaaDoorChnCla
import Derived.Test.YtllcgehfmkmcdaaDoorLkArg
namespace Go.Proofs.YtllcgehfmkmcdaaDoor
open Go.ChangeShapes Go.WideShapes Go.ChangeAt Go.RowKit Go.WideElems Go.Shelf
set_option linter.unusedVariables false
set_option linter.unusedSimpArgs false

/-- a clash at the first t links: different texts, one head -/
def ClashAt (ls ms : List Lk) (t : Nat) : Prop := ¬ lkT (ls.getD (t - 1) lk0) = lkT (ms.getD (t - 1) lk0) ∧ headOf (ls.take t) = headOf (ms.take t)
theorem fld_of {ls : List Lk} {i : Nat} (h : linB ls i = true) : (0 ≤ (ls.getD i lk0).node ∧ (ls.getD i lk0).node < 24) ∧ (ls.getD i lk0).no = (i : Int) ∧ (ls.getD i lk0).prev = headOf (ls.take i) := by
  unfold linB fldB prvB at h
  simp only [Bool.and_eq_true, decide_eq_true_eq, beq_iff_eq] at h
  exact ⟨⟨h.1.1.1.1.1, h.1.1.1.1.2⟩, h.1.1.2, h.2⟩
theorem clash_ex {ls ms : List Lk} (ha : AllB (linB ls) ls.length) (hb : AllB (linB ms) ms.length) (he : ls.length = ms.length) (sa : Small ls) (sb : Small ms) : ∀ i, i ≤ ls.length → headOf (ls.take i) = headOf (ms.take i) → (∃ j, j < i ∧ samB (ls.getD j lk0) (ms.getD j lk0) = false) → ∃ t, 1 ≤ t ∧ t ≤ i ∧ ClashAt ls ms t
  | 0, _, _, ⟨j, hj, _⟩ => absurd hj (by omega)
  | i + 1, hi, hh, ⟨j, hj, hf⟩ => by
    by_cases hT : lkT (ls.getD i lk0) = lkT (ms.getD i lk0)
    · obtain ⟨a1, a2, a3⟩ := fld_of (ha i (by omega))
      obtain ⟨b1, b2, b3⟩ := fld_of (hb i (by omega))
      have hn := sa.n
      have hs := lkT_inj (by rw [a3]; exact headOf_len _) (by rw [b3]; exact headOf_len _) a1 b1 (by rw [a2]; omega) (by rw [b2]; omega) (sa.d _ (getD_memL (by omega))) (sb.d _ (getD_memL (by omega))) hT
      have hne : j ≠ i := fun e => by
        subst e
        rw [samB_iff.2 hs] at hf; cases hf
      obtain ⟨t, t1, t2, t3⟩ := clash_ex ha hb he sa sb i (by omega) (by rw [← a3, ← b3]; exact hs.2.2.1) ⟨j, by omega, hf⟩
      exact ⟨t, t1, by omega, t3⟩
    · exact ⟨i + 1, by omega, by omega, by simpa using hT, hh⟩
theorem chk_all {ls : List Lk} (h : IsChk ls 0) : AllB (linB ls) ls.length := by
  rcases h with ⟨h, _⟩ | ⟨_, h⟩
  · exact h
  · cases h
set_option maxRecDepth 100000 in
set_option maxHeartbeats 8000000 in
theorem equal_f0 (p : Option Addr) (n c : Nat) (ls : List Lk) (q : Option Addr) (m d : Nat) (ms : List Lk) (w : World) (hs : Hid (LksV w p n c ls)) (hz : Hid (LksV w q m d ms)) (hkey : Hid (KeysAt w)) (hfa : Hid (fewB ls = false)) :
    Calls Tryd.prog 5 #[.slice p n c, .slice q m d] w fun r w' => r = .returned (.bool true) ∧ Below w.heap.size w w' := by
  go_enter Tryd.func5, Tryd.ntmps5
  go_wp2_with (first
    | (go_at_call 8; with_reducible refine (sane08_any w hkey).mono ?_; rintro r w1 ⟨rfl, hb⟩; have B1 := Lib.hid hb; clear hb)
    | (go_at_call 9; with_reducible refine (rfew_is p n c ls _ (Lib.hid (hs.out.below B1.out)) false hfa).mono ?_; rintro r w' ⟨rfl, rfl⟩))
  go_ret
  exact ⟨rfl, B1.out⟩
set_option maxRecDepth 100000 in
set_option maxHeartbeats 8000000 in
theorem equal_f1 (p : Option Addr) (n c : Nat) (ls : List Lk) (q : Option Addr) (m d : Nat) (ms : List Lk) (w : World) (hs : Hid (LksV w p n c ls)) (hz : Hid (LksV w q m d ms)) (hkey : Hid (KeysAt w)) (hfa : Hid (fewB ls = true)) (hfb : Hid (fewB ms = false)) :
    Calls Tryd.prog 5 #[.slice p n c, .slice q m d] w fun r w' => r = .returned (.bool true) ∧ Below w.heap.size w w' := by
  go_enter Tryd.func5, Tryd.ntmps5
  go_wp2_with (first
    | (go_at_call 8; with_reducible refine (sane08_any w hkey).mono ?_; rintro r w1 ⟨rfl, hb⟩; have B1 := Lib.hid hb; clear hb)
    | (go_at_call 9; with_reducible refine (rfew_is p n c ls _ (Lib.hid (hs.out.below B1.out)) true hfa).mono ?_; rintro r w' ⟨rfl, rfl⟩)
    | (go_at_call 9; with_reducible refine (rfew_is q m d ms _ (Lib.hid (hz.out.below B1.out)) false hfb).mono ?_; rintro r w' ⟨rfl, rfl⟩))
  go_ret
  exact ⟨rfl, B1.out⟩
set_option maxRecDepth 100000 in
set_option maxHeartbeats 8000000 in
theorem equal_c1 (p : Option Addr) (n c : Nat) (ls : List Lk) (q : Option Addr) (m d : Nat) (ms : List Lk) (w : World) (hs : Hid (LksV w p n c ls)) (hz : Hid (LksV w q m d ms)) (hkey : Hid (KeysAt w)) (hfa : Hid (fewB ls = true)) (hfb : Hid (fewB ms = true)) (sa : Hid (Small ls)) (sb : Hid (Small ms)) (ha : Hid (IsChk ls 80)) :
    Calls Tryd.prog 5 #[.slice p n c, .slice q m d] w fun r w' => r = .returned (.bool true) ∧ Below w.heap.size w w' := by
  go_enter Tryd.func5, Tryd.ntmps5
  go_wp2_with (first
    | (go_at_call 8; with_reducible refine (sane08_any w hkey).mono ?_; rintro r w1 ⟨rfl, hb⟩; have B1 := Lib.hid hb; clear hb)
    | (go_at_call 9; with_reducible refine (rfew_is p n c ls _ (Lib.hid (hs.out.below B1.out)) true hfa).mono ?_; rintro r w' ⟨rfl, rfl⟩)
    | (go_at_call 9; with_reducible refine (rfew_is q m d ms _ (Lib.hid (hz.out.below B1.out)) true hfb).mono ?_; rintro r w' ⟨rfl, rfl⟩)
    | (go_at_call 16; with_reducible refine (ccheck_is p n c ls 80 w1 (Lib.hid (hs.out.below B1.out)) sa (Lib.hid (hkey.out.below B1.out)) ha).mono ?_; rintro r w2 ⟨rfl, hb⟩; have B2 := Lib.hid (bel_trans B1.out hb); clear hb))
  go_ret
  exact ⟨rfl, B2.out⟩
set_option maxRecDepth 100000 in
set_option maxHeartbeats 8000000 in
theorem equal_c2 (p : Option Addr) (n c : Nat) (ls : List Lk) (q : Option Addr) (m d : Nat) (ms : List Lk) (w : World) (hs : Hid (LksV w p n c ls)) (hz : Hid (LksV w q m d ms)) (hkey : Hid (KeysAt w)) (hfa : Hid (fewB ls = true)) (hfb : Hid (fewB ms = true)) (sa : Hid (Small ls)) (sb : Hid (Small ms)) (ha : Hid (IsChk ls 0)) (hbb : Hid (IsChk ms 80)) :
    Calls Tryd.prog 5 #[.slice p n c, .slice q m d] w fun r w' => r = .returned (.bool true) ∧ Below w.heap.size w w' := by
  go_enter Tryd.func5, Tryd.ntmps5
  go_wp2_with (first
    | (go_at_call 8; with_reducible refine (sane08_any w hkey).mono ?_; rintro r w1 ⟨rfl, hb⟩; have B1 := Lib.hid hb; clear hb)
    | (go_at_call 9; with_reducible refine (rfew_is p n c ls _ (Lib.hid (hs.out.below B1.out)) true hfa).mono ?_; rintro r w' ⟨rfl, rfl⟩)
    | (go_at_call 9; with_reducible refine (rfew_is q m d ms _ (Lib.hid (hz.out.below B1.out)) true hfb).mono ?_; rintro r w' ⟨rfl, rfl⟩)
    | (go_at_call 16; with_reducible refine (ccheck_is p n c ls 0 w1 (Lib.hid (hs.out.below B1.out)) sa (Lib.hid (hkey.out.below B1.out)) ha).mono ?_; rintro r w2 ⟨rfl, hb⟩; have B2 := Lib.hid (bel_trans B1.out hb); clear hb)
    | (go_at_call 16; with_reducible refine (ccheck_is q m d ms 80 w2 (Lib.hid (hz.out.below B2.out)) sb (Lib.hid (hkey.out.below B2.out)) hbb).mono ?_; rintro r w3 ⟨rfl, hb⟩; have B3 := Lib.hid (bel_trans B2.out hb); clear hb))
  go_ret
  exact ⟨rfl, B3.out⟩
set_option maxRecDepth 100000 in
set_option maxHeartbeats 8000000 in
theorem equal_c3 (p : Option Addr) (n c : Nat) (ls : List Lk) (q : Option Addr) (m d : Nat) (ms : List Lk) (w : World) (hs : Hid (LksV w p n c ls)) (hz : Hid (LksV w q m d ms)) (hkey : Hid (KeysAt w)) (hfa : Hid (fewB ls = true)) (hfb : Hid (fewB ms = true)) (sa : Hid (Small ls)) (sb : Hid (Small ms)) (ha : Hid (IsChk ls 0)) (hbb : Hid (IsChk ms 0)) (hne : ¬ n = m) :
    Calls Tryd.prog 5 #[.slice p n c, .slice q m d] w fun r w' => r = .returned (.bool true) ∧ Below w.heap.size w w' := by
  have hd1 : decide ((n : Int) = (m : Int)) = false := decide_eq_false (by omega)
  have hd2 : ((n : Int) == (m : Int)) = false := by simp; omega
  go_enter Tryd.func5, Tryd.ntmps5
  go_wp2_with (first
    | (go_at_call 8; with_reducible refine (sane08_any w hkey).mono ?_; rintro r w1 ⟨rfl, hb⟩; have B1 := Lib.hid hb; clear hb)
    | (go_at_call 9; with_reducible refine (rfew_is p n c ls _ (Lib.hid (hs.out.below B1.out)) true hfa).mono ?_; rintro r w' ⟨rfl, rfl⟩)
    | (go_at_call 9; with_reducible refine (rfew_is q m d ms _ (Lib.hid (hz.out.below B1.out)) true hfb).mono ?_; rintro r w' ⟨rfl, rfl⟩)
    | (go_at_call 16; with_reducible refine (ccheck_is p n c ls 0 w1 (Lib.hid (hs.out.below B1.out)) sa (Lib.hid (hkey.out.below B1.out)) ha).mono ?_; rintro r w2 ⟨rfl, hb⟩; have B2 := Lib.hid (bel_trans B1.out hb); clear hb)
    | (go_at_call 16; with_reducible refine (ccheck_is q m d ms 0 w2 (Lib.hid (hz.out.below B2.out)) sb (Lib.hid (hkey.out.below B2.out)) hbb).mono ?_; rintro r w3 ⟨rfl, hb⟩; have B3 := Lib.hid (bel_trans B2.out hb); clear hb))
  go_ret
  exact ⟨rfl, B3.out⟩
set_option maxRecDepth 100000 in
set_option maxHeartbeats 8000000 in
theorem equal_c4 (p : Option Addr) (n c : Nat) (ls : List Lk) (q : Option Addr) (d : Nat) (ms : List Lk) (w : World) (hs : Hid (LksV w p n c ls)) (hz : Hid (LksV w q n d ms)) (hkey : Hid (KeysAt w)) (hfa : Hid (fewB ls = true)) (hfb : Hid (fewB ms = true)) (sa : Hid (Small ls)) (sb : Hid (Small ms)) (ha : Hid (IsChk ls 0)) (hbb : Hid (IsChk ms 0)) (da db : List Int) (hda : Hid (IsHead ls da)) (hdb : Hid (IsHead ms db)) (hne : Hid (¬ da = db)) :
    Calls Tryd.prog 5 #[.slice p n c, .slice q n d] w fun r w' => r = .returned (.bool true) ∧ Below w.heap.size w w' := by
  have EQ : ∀ u, (Op.equalIn 10000 35 (.agg (bv da).toArray) (.agg (bv db).toArray)).run Tryd.prog u = .ok false u := fun u => by rw [eqDig_any da db hda.out.tg.len hdb.out.tg.len u, decide_eq_false hne.out]
  go_enter Tryd.func5, Tryd.ntmps5
  go_wp2_with (first
    | (go_at_call 8; with_reducible refine (sane08_any w hkey).mono ?_; rintro r w1 ⟨rfl, hb⟩; have B1 := Lib.hid hb; clear hb)
    | (go_at_call 9; with_reducible refine (rfew_is p n c ls _ (Lib.hid (hs.out.below B1.out)) true hfa).mono ?_; rintro r w' ⟨rfl, rfl⟩)
    | (go_at_call 9; with_reducible refine (rfew_is q n d ms _ (Lib.hid (hz.out.below B1.out)) true hfb).mono ?_; rintro r w' ⟨rfl, rfl⟩)
    | (go_at_call 16; with_reducible refine (ccheck_is p n c ls 0 w1 (Lib.hid (hs.out.below B1.out)) sa (Lib.hid (hkey.out.below B1.out)) ha).mono ?_; rintro r w2 ⟨rfl, hb⟩; have B2 := Lib.hid (bel_trans B1.out hb); clear hb)
    | (go_at_call 16; with_reducible refine (ccheck_is q n d ms 0 w2 (Lib.hid (hz.out.below B2.out)) sb (Lib.hid (hkey.out.below B2.out)) hbb).mono ?_; rintro r w3 ⟨rfl, hb⟩; have B3 := Lib.hid (bel_trans B2.out hb); clear hb)
    | (go_at_call 15; with_reducible refine (chead_is p n c ls w3 (Lib.hid (hs.out.below B3.out)) (Lib.hid (hkey.out.below B3.out)) sa da hda).mono ?_; rintro r w4 ⟨rfl, hb⟩; have B4 := Lib.hid (bel_trans B3.out hb); clear hb)
    | (go_at_call 15; with_reducible refine (chead_is q n d ms w4 (Lib.hid (hz.out.below B4.out)) (Lib.hid (hkey.out.below B4.out)) sb db hdb).mono ?_; rintro r w5 ⟨rfl, hb⟩; have B5 := Lib.hid (bel_trans B4.out hb); clear hb))
  go_ret
  exact ⟨rfl, B5.out⟩
set_option maxRecDepth 100000 in
set_option maxHeartbeats 8000000 in
theorem equal_c5 (p : Option Addr) (n c : Nat) (ls : List Lk) (q : Option Addr) (d : Nat) (ms : List Lk) (w : World) (hs : Hid (LksV w p n c ls)) (hz : Hid (LksV w q n d ms)) (hkey : Hid (KeysAt w)) (hfa : Hid (fewB ls = true)) (hfb : Hid (fewB ms = true)) (sa : Hid (Small ls)) (sb : Hid (Small ms)) (ha : Hid (IsChk ls 0)) (hbb : Hid (IsChk ms 0)) (hn2 : n ≤ 2000) (da : List Int) (hda : Hid (IsHead ls da)) (hdb : Hid (IsHead ms da)) (hsm : Hid (IsSm ls ms true)) :
    Calls Tryd.prog 5 #[.slice p n c, .slice q n d] w fun r w' => r = .returned (.bool true) ∧ Below w.heap.size w w' := by
  have EQ : ∀ u, (Op.equalIn 10000 35 (.agg (bv da).toArray) (.agg (bv da).toArray)).run Tryd.prog u = .ok true u := fun u => by rw [eqDig_any da da hda.out.tg.len hda.out.tg.len u, decide_eq_true rfl]
  go_enter Tryd.func5, Tryd.ntmps5
  go_wp2_with (first
    | (go_at_call 8; with_reducible refine (sane08_any w hkey).mono ?_; rintro r w1 ⟨rfl, hb⟩; have B1 := Lib.hid hb; clear hb)
    | (go_at_call 9; with_reducible refine (rfew_is p n c ls _ (Lib.hid (hs.out.below B1.out)) true hfa).mono ?_; rintro r w' ⟨rfl, rfl⟩)
    | (go_at_call 9; with_reducible refine (rfew_is q n d ms _ (Lib.hid (hz.out.below B1.out)) true hfb).mono ?_; rintro r w' ⟨rfl, rfl⟩)
    | (go_at_call 16; with_reducible refine (ccheck_is p n c ls 0 w1 (Lib.hid (hs.out.below B1.out)) sa (Lib.hid (hkey.out.below B1.out)) ha).mono ?_; rintro r w2 ⟨rfl, hb⟩; have B2 := Lib.hid (bel_trans B1.out hb); clear hb)
    | (go_at_call 16; with_reducible refine (ccheck_is q n d ms 0 w2 (Lib.hid (hz.out.below B2.out)) sb (Lib.hid (hkey.out.below B2.out)) hbb).mono ?_; rintro r w3 ⟨rfl, hb⟩; have B3 := Lib.hid (bel_trans B2.out hb); clear hb)
    | (go_at_call 15; with_reducible refine (chead_is p n c ls w3 (Lib.hid (hs.out.below B3.out)) (Lib.hid (hkey.out.below B3.out)) sa da hda).mono ?_; rintro r w4 ⟨rfl, hb⟩; have B4 := Lib.hid (bel_trans B3.out hb); clear hb)
    | (go_at_call 15; with_reducible refine (chead_is q n d ms w4 (Lib.hid (hz.out.below B4.out)) (Lib.hid (hkey.out.below B4.out)) sb da hdb).mono ?_; rintro r w5 ⟨rfl, hb⟩; have B5 := Lib.hid (bel_trans B4.out hb); clear hb)
    | (go_at_call 14; with_reducible refine (rsame_eq p q n c d ls ms w5 (Lib.hid (hs.out.below B5.out)) (Lib.hid (hz.out.below B5.out)) hn2 true hsm).mono ?_; rintro r w6 ⟨rfl, hb⟩; have B6 := Lib.hid (bel_trans B5.out hb); clear hb))
  go_ret
  exact ⟨rfl, B6.out⟩
theorem getD_takeE {ls : List Lk} {t k : Nat} (h : k < t) : (ls.take t).getD k lk0 = ls.getD k lk0 := by simp [List.getD, List.getElem?_take, h]
set_option maxRecDepth 100000 in
set_option maxHeartbeats 8000000 in
theorem equal_c6 (p : Option Addr) (n c : Nat) (ls : List Lk) (q : Option Addr) (d : Nat) (ms : List Lk) (w : World) (hs : Hid (LksV w p n c ls)) (hz : Hid (LksV w q n d ms)) (hkey : Hid (KeysAt w)) (hfa : Hid (fewB ls = true)) (hfb : Hid (fewB ms = true)) (sa : Hid (Small ls)) (sb : Hid (Small ms)) (ha : Hid (IsChk ls 0)) (hbb : Hid (IsChk ms 0)) (hn2 : n ≤ 2000) (da : List Int) (hda : Hid (IsHead ls da)) (hdb : Hid (IsHead ms da)) (hsm : Hid (IsSm ls ms false)) (hn1 : 1 ≤ n) (hex : Hid (∃ t, 1 ≤ t ∧ t ≤ n ∧ ClashAt ls ms t)) :
    Calls Tryd.prog 5 #[.slice p n c, .slice q n d] w fun r w' => r = .returned (.bool true) ∧ Below w.heap.size w w' := by
  have hnc := hs.out.nc
  have hcm := hs.out.cm
  have hmd := hz.out.nc
  have hdm := hz.out.cm
  have EQ : ∀ u, (Op.equalIn 10000 35 (.agg (bv da).toArray) (.agg (bv da).toArray)).run Tryd.prog u = .ok true u := fun u => by rw [eqDig_any da da hda.out.tg.len hda.out.tg.len u, decide_eq_true rfl]
  go_enter Tryd.func5, Tryd.ntmps5
  go_wp2_with (first
    | (go_at_call 8; with_reducible refine (sane08_any w hkey).mono ?_; rintro r w1 ⟨rfl, hb⟩; have B1 := Lib.hid hb; clear hb)
    | (go_at_call 9; with_reducible refine (rfew_is p n c ls _ (Lib.hid (hs.out.below B1.out)) true hfa).mono ?_; rintro r w' ⟨rfl, rfl⟩)
    | (go_at_call 9; with_reducible refine (rfew_is q n d ms _ (Lib.hid (hz.out.below B1.out)) true hfb).mono ?_; rintro r w' ⟨rfl, rfl⟩)
    | (go_at_call 16; with_reducible refine (ccheck_is p n c ls 0 w1 (Lib.hid (hs.out.below B1.out)) sa (Lib.hid (hkey.out.below B1.out)) ha).mono ?_; rintro r w2 ⟨rfl, hb⟩; have B2 := Lib.hid (bel_trans B1.out hb); clear hb)
    | (go_at_call 16; with_reducible refine (ccheck_is q n d ms 0 w2 (Lib.hid (hz.out.below B2.out)) sb (Lib.hid (hkey.out.below B2.out)) hbb).mono ?_; rintro r w3 ⟨rfl, hb⟩; have B3 := Lib.hid (bel_trans B2.out hb); clear hb)
    | (go_at_call 15; with_reducible refine (chead_is p n c ls w3 (Lib.hid (hs.out.below B3.out)) (Lib.hid (hkey.out.below B3.out)) sa da hda).mono ?_; rintro r w4 ⟨rfl, hb⟩; have B4 := Lib.hid (bel_trans B3.out hb); clear hb)
    | (go_at_call 15; with_reducible refine (chead_is q n d ms w4 (Lib.hid (hz.out.below B4.out)) (Lib.hid (hkey.out.below B4.out)) sb da hdb).mono ?_; rintro r w5 ⟨rfl, hb⟩; have B5 := Lib.hid (bel_trans B4.out hb); clear hb)
    | (go_at_call 14; with_reducible refine (rsame_eq p q n c d ls ms w5 (Lib.hid (hs.out.below B5.out)) (Lib.hid (hz.out.below B5.out)) hn2 false hsm).mono ?_; rintro r w6 ⟨rfl, hb⟩; have B6 := Lib.hid (bel_trans B5.out hb); clear hb))
  clear EQ
  go_loopw [5] (fun i wr => ∃ j : Nat, i = .int .i64 (j : Int) ∧ 1 ≤ j ∧ j ≤ n + 1 ∧ Hid (∀ t, 1 ≤ t → t < j → ¬ ClashAt ls ms t) ∧ Hid (Below w.heap.size w wr)) (fun i _ => n + 1 - (intOf i).toNat)
  case atStart => exact ⟨1, by simp, by omega, by omega, Lib.hid (fun t h1 h2 => absurd h2 (by omega)), B6⟩
  case round =>
    obtain ⟨j, rfl, hj1, hj2, HA, HB⟩ := hrel
    by_cases hlt : j ≤ n
    · have hjn : j ≤ n := hlt
      have hjc : j ≤ c := by omega
      have hjd : j ≤ d := by omega
      have hj1e : j = j - 1 + 1 := by omega
      have G1 := Lib.hid (show (ls.take j).getD (j - 1) lk0 = ls.getD (j - 1) lk0 from getD_takeE (by omega))
      have G2 := Lib.hid (show (ms.take j).getD (j - 1) lk0 = ms.getD (j - 1) lk0 from getD_takeE (by omega))
      have HJE := Lib.hid hj1e
      clear hj1e
      go_upto_region 10 with fail
      refine wp_region_any (by kernel_rfl) ?_
      change wpAny _ _ _ _ _ _ _ (World.drew _)
      generalize hWD : World.drew _ = V
      have BX := Lib.hid (show Below w.heap.size w V by rw [← hWD]; exact HB.out.drew)
      clear hWD
      have hCD : ∀ u, Ext V u → Ext V u := fun u hu => hu
      refine region_U (D := Ext V) (Ext V) [6] (Ext.refl V) ?_
      refine anyU_takeP (i := 0) (j := 6) (v := .slice p n c) 49 [2] rfl rfl (by kernel_rfl) (by kernel_rfl) (by kernel_rfl) (fun _ _ _ h => h) (by kernel_rfl) (Ext.stable _) hCD (yieldsU_val rfl (fun u hu => by go_simp)) ?_
      refine anyU_takeP (i := 1) (j := 6) (v := .int .i64 (j : Int)) 50 [2] rfl rfl (by kernel_rfl) (by kernel_rfl) (by kernel_rfl) (fun _ _ _ h => h) (by kernel_rfl) (Ext.stable _) hCD (yieldsU_val rfl (fun u hu => by go_simp)) ?_
      refine anyU_takeP (i := 2) (j := 6) (v := .slice p j c) 51 [] rfl rfl (by kernel_rfl) (by kernel_rfl) (by kernel_rfl) (fun _ _ _ h => h) (by kernel_rfl) (Ext.stable _) hCD (yieldsU_val rfl (fun u hu => by go_simp)) ?_
      simp only [Act.put, List.setIfInBounds_toArray, List.set_cons_succ, List.set_cons_zero]
      refine anyU_takeP (i := 3) (j := 6) (v := .slice q n d) 52 [5] rfl rfl (by kernel_rfl) (by kernel_rfl) (by kernel_rfl) (fun _ _ _ h => h) (by kernel_rfl) (Ext.stable _) hCD (yieldsU_val rfl (fun u hu => by go_simp)) ?_
      refine anyU_takeP (i := 4) (j := 6) (v := .int .i64 (j : Int)) 53 [5] rfl rfl (by kernel_rfl) (by kernel_rfl) (by kernel_rfl) (fun _ _ _ h => h) (by kernel_rfl) (Ext.stable _) hCD (yieldsU_val rfl (fun u hu => by go_simp)) ?_
      refine anyU_takeP (i := 5) (j := 6) (v := .slice q j d) 54 [] rfl rfl (by kernel_rfl) (by kernel_rfl) (by kernel_rfl) (fun _ _ _ h => h) (by kernel_rfl) (Ext.stable _) hCD (yieldsU_val rfl (fun u hu => by go_simp)) ?_
      simp only [Act.put, List.setIfInBounds_toArray, List.set_cons_succ, List.set_cons_zero]
      refine anyU_tail 6 [] rfl rfl (by decide) (by kernel_rfl) ?_
      intro u hu
      simp only [Act.put, List.filterMap_cons, List.filterMap_nil, List.getElem?_cons_succ, List.getElem?_cons_zero]
      have BU := Lib.hid (bel_trans BX.out hu)
      clear hu
      by_cases hT : lkT (ls.getD (j - 1) lk0) = lkT (ms.getD (j - 1) lk0)
      · have HN := Lib.hid (show ¬ ClashAt ls ms j from fun h => h.1 hT)
        have HT := Lib.hid (show lkT ((ls.take j).getD (j - 1) lk0) = lkT ((ms.take j).getD (j - 1) lk0) by rw [G1.out, G2.out]; exact hT)
        clear hT
        go_wp2_with (go_at_call 17; with_reducible refine (clash_same p q j c d (j - 1) (ls.take j) (ms.take j) u (Lib.hid ((hs.out.below BU.out).take hjn)) (Lib.hid ((hz.out.below BU.out).take hjn)) (Lib.hid (hkey.out.below BU.out)) (Lib.hid (sa.out.take j)) (Lib.hid (sb.out.take j)) HJE.out HT).mono ?_; rintro r w8 ⟨rfl, hb⟩; have B8 := Lib.hid (bel_trans BU.out hb); clear hb)
        go_roundw
        case rel => exact ⟨j + 1, by simp, by omega, by omega, Lib.hid (fun t t1 t2 => by
          rcases Nat.lt_or_ge t j with h | h
          · exact HA.out t t1 h
          · obtain rfl : t = j := by omega
            exact HN.out), B8⟩
        case measure => simp [intOf]; omega
      · have HT := Lib.hid (show ¬ lkT ((ls.take j).getD (j - 1) lk0) = lkT ((ms.take j).getD (j - 1) lk0) by rw [G1.out, G2.out]; exact hT)
        by_cases hH : headOf (ls.take j) = headOf (ms.take j)
        · have H1 := Lib.hid (headOf_is (ls.take j))
          have H2 := Lib.hid (show IsHead (ms.take j) (headOf (ls.take j)) by rw [hH]; exact headOf_is _)
          clear hT hH
          go_wp2_with (go_at_call 17; with_reducible refine (clash_hit p q j c d (j - 1) (ls.take j) (ms.take j) u (Lib.hid ((hs.out.below BU.out).take hjn)) (Lib.hid ((hz.out.below BU.out).take hjn)) (Lib.hid (hkey.out.below BU.out)) (Lib.hid (sa.out.take j)) (Lib.hid (sb.out.take j)) HJE.out HT _ H1 H2).mono ?_; rintro r w8 ⟨rfl, hb⟩; have B8 := Lib.hid (bel_trans BU.out hb); clear hb)
          go_ret
          exact ⟨rfl, B8.out⟩
        · have HN := Lib.hid (show ¬ ClashAt ls ms j from fun h => hH h.2)
          have H1 := Lib.hid (headOf_is (ls.take j))
          have H2 := Lib.hid (headOf_is (ms.take j))
          have HH := Lib.hid hH
          clear hT hH
          go_wp2_with (go_at_call 17; with_reducible refine (clash_miss p q j c d (j - 1) (ls.take j) (ms.take j) u (Lib.hid ((hs.out.below BU.out).take hjn)) (Lib.hid ((hz.out.below BU.out).take hjn)) (Lib.hid (hkey.out.below BU.out)) (Lib.hid (sa.out.take j)) (Lib.hid (sb.out.take j)) HJE.out HT _ _ H1 H2 HH).mono ?_; rintro r w8 ⟨rfl, hb⟩; have B8 := Lib.hid (bel_trans BU.out hb); clear hb)
          go_roundw
          case rel => exact ⟨j + 1, by simp, by omega, by omega, Lib.hid (fun t t1 t2 => by
            rcases Nat.lt_or_ge t j with h | h
            · exact HA.out t t1 h
            · obtain rfl : t = j := by omega
              exact HN.out), B8⟩
          case measure => simp [intOf]; omega
    · obtain ⟨t, t1, t2, t3⟩ := hex.out
      exact absurd t3 (HA.out t t1 (by omega))
theorem equal_walk (p : Option Addr) (n c : Nat) (ls : List Lk) (q : Option Addr) (m d : Nat) (ms : List Lk) (w : World) (hs : Hid (LksV w p n c ls)) (hz : Hid (LksV w q m d ms)) (hkey : Hid (KeysAt w)) :
    Calls Tryd.prog 5 #[.slice p n c, .slice q m d] w fun r w' => r = .returned (.bool true) ∧ Below w.heap.size w w' := by
  cases hfa : fewB ls with
  | false => exact equal_f0 p n c ls q m d ms w hs hz hkey (Lib.hid hfa)
  | true =>
    cases hfb : fewB ms with
    | false => exact equal_f1 p n c ls q m d ms w hs hz hkey (Lib.hid hfa) (Lib.hid hfb)
    | true =>
      have sa := Lib.hid (few_small hfa)
      have sb := Lib.hid (few_small hfb)
      have FA := Lib.hid hfa
      have FB := Lib.hid hfb
      obtain ⟨ea, ha⟩ := isChk ls
      obtain ⟨eb, hb⟩ := isChk ms
      rcases ha.two with rfl | rfl
      case inr => exact equal_c1 p n c ls q m d ms w hs hz hkey FA FB sa sb (Lib.hid ha)
      rcases hb.two with rfl | rfl
      case inr => exact equal_c2 p n c ls q m d ms w hs hz hkey FA FB sa sb (Lib.hid ha) (Lib.hid hb)
      by_cases hnm : n = m
      case neg => exact equal_c3 p n c ls q m d ms w hs hz hkey FA FB sa sb (Lib.hid ha) (Lib.hid hb) hnm
      subst hnm
      have hl1 := hs.out.len
      have hl2 := hz.out.len
      have hn40 : n ≤ 40 := by have := sa.out.n; omega
      by_cases hd : headOf ls = headOf ms
      case neg => exact equal_c4 p n c ls q d ms w hs hz hkey FA FB sa sb (Lib.hid ha) (Lib.hid hb) _ _ (Lib.hid (headOf_is ls)) (Lib.hid (headOf_is ms)) (Lib.hid hd)
      have H2 := Lib.hid (show IsHead ms (headOf ls) by rw [hd]; exact headOf_is ms)
      by_cases hS : AllB (fun j => samB (ls.getD j lk0) (ms.getD j lk0)) ls.length
      · exact equal_c5 p n c ls q d ms w hs hz hkey FA FB sa sb (Lib.hid ha) (Lib.hid hb) (by omega) _ (Lib.hid (headOf_is ls)) H2 (Lib.hid ⟨fun _ => rfl, fun k hk hf => by
          have h2 : samB (ls.getD k lk0) (ms.getD k lk0) = true := hS k hk
          rw [hf] at h2
          cases h2⟩)
      · have hj : ∃ j, j < ls.length ∧ samB (ls.getD j lk0) (ms.getD j lk0) = false := by
          simp only [AllB, Classical.not_forall] at hS
          obtain ⟨j, hj, hf⟩ := hS
          exact ⟨j, hj, by simpa using hf⟩
        have hex := clash_ex (chk_all ha) (chk_all hb) (by omega) sa.out sb.out ls.length (Nat.le_refl _) (by rw [List.take_length, hl1.symm.trans hl2, List.take_length]; exact hd) hj
        rw [← hl1] at hex
        obtain ⟨j, hj1, hj2⟩ := hj
        exact equal_c6 p n c ls q d ms w hs hz hkey FA FB sa sb (Lib.hid ha) (Lib.hid hb) (by omega) _ (Lib.hid (headOf_is ls)) H2 (Lib.hid ⟨fun h => absurd h hS, fun _ _ _ => rfl⟩) (by omega) (Lib.hid hex)

namespace chainEqual
theorem readable : ∀ t ∈ Tryd.f5.params.toList, Tryd.prog.readableRec t = true ∧ t < Tryd.prog.types.size := by
  rw [Tryd.params5]
  intro t ht
  simp only [List.mem_cons, List.not_mem_nil, or_false] at ht
  rcases ht with rfl | rfl
  all_goals exact ⟨by kernel_rfl, by decide +kernel⟩

set_option maxRecDepth 100000 in
theorem lifted (os : Os) (started : os.Started) (H : Type) (enc : TypeId × Value → H) :
    ReturnsInHanded {} Tryd.checked os 5 .any (fun w args => (Rows.chainEqualSpec.pre enc Tryd.prog Tryd.f5 [] false w args ∧ laidMetH Tryd.prog laidK w) ∧ sizedMet enc Tryd.prog Tryd.f5 (OpenSpec.ofChange Rows.chainEqualSpec) false w args)
      (Rows.chainEqualSpec.post enc Tryd.prog Tryd.f5 false true false false) := by
  refine returnsInHanded_of_change_and (C := Tryd.checked) (X := fun w _ => laidMetH Tryd.prog laidK w) (fun _ _ _ hh h => h.of_heap hh) own_knob started (by kernel_rfl) Tryd.func5
    (ChangeSpec.witness_shaped (enc := enc) (C := Tryd.checked) (os := os) (X := fun w _ => laidMetH Tryd.prog laidK w) false (World.doorLaid Tryd.prog 400 os) #[.slice none 0 0, .slice none 0 0] 8 rfl (World.shaped_of_RefB (by kernel_rfl) (by kernel_rfl)) (by kernel_rfl) (by kernel_rfl) (by kernel_rfl) (door_met os _)) ?_
  intro W base args ds gs before hval0 hW _ _ hL _
  have hval : ∀ (j : Nat) t v, Tryd.f5.params[j]? = some t → args[j]? = some v → Value.okWide Tryd.prog W .any base t v := hval0
  have hW' := hW
  obtain ⟨p, q, hA0, hV, rfl, hfz, hnd⟩ := hW
  have hA : DataW.TrodAll enc Tryd.prog W 0 (fun _ => true) true Tryd.f5.params.toList args.toList ds p := hA0
  rw [Tryd.params5] at hA hval
  obtain ⟨v0, vs0, d0, ds0, p0, q0, hargs, rfl, rfl, h0, r0⟩ := trodAll_cons hA
  obtain ⟨v1, vs1, d1, ds1, p1, q1, rfl, rfl, rfl, h1, r1⟩ := trodAll_cons r0
  obtain ⟨rfl, rfl, rfl⟩ := trodAll_nil r1
  obtain rfl : args = #[v0, v1] := by cases args; simp_all
  obtain ⟨rfl, rfl⟩ := trodVars_none hV
  obtain ⟨s0, n0, c0, l0, rfl, w0⟩ := open_links (hval 0 22 v0 rfl rfl) h0
  obtain ⟨s1, n1, c1, l1, rfl, w1⟩ := open_links (hval 1 22 v1 rfl rfl) h1
  have hK := of_laid hL
  clear hA0 hval0
  refine (equal_walk s0 n0 c0 l0 s1 n1 c1 l1 W (Lib.hid w0) (Lib.hid w1) (Lib.hid hK)).mono fun e W' ⟨he, hb⟩ => ?_
  subst he
  exact ⟨_, rfl, law_post laid_out readable rfl rfl Tryd.underlying4 hW' rfl rfl rfl hb⟩

theorem over : Rows.chainEqualRow.holds Tryd.pinned (OpenSpec.ofChange Rows.chainEqualSpec) :=
  OpenClaim.holds_of_wide 5 Tryd.f5 rfl rfl rfl rfl rfl rfl rfl ⟨rfl, rfl, rfl, rfl, rfl⟩ rfl rfl rfl rfl rfl (by kernel_rfl) Tryd.func5 (by kernel_rfl)
    (of_decide_eq_true (by kernel_rfl)) (by unfold Func.isWrapper; first | (rw [if_pos (by decide +kernel)]; kernel_rfl) | (rw [if_neg (by decide +kernel)]; exact ⟨rfl, rfl⟩))
    (fun os started H enc _ => lifted os started H enc)

/-- the statement: the tied card -/
theorem proved : Rows.ChainEqualCardSaid :=
  Claim7.holds_tied_plain_at .later [] [.data] true (true, "40284c324d3d6a13069895ce4ab99fdefbc2f5f94b227550a7a899fa5adc4483") false
    over (fun _ h => by cases h) (by kernel_rfl) (fun _ h => by cases h) chainEqual_row_tie rfl ⟨rfl, rfl⟩ (by kernel_rfl) rfl
    (fun f fn hf hfn => by
      obtain rfl : f = 5 := Option.some.inj ((show Tryd.prog.funcNamed "franking/frankinglaw08.ChainEqual" = some 5 by kernel_rfl).symm.trans hf) |>.symm
      obtain rfl : fn = Tryd.f5 := (Option.some.inj (Tryd.func5.symm.trans hfn)).symm
      exact ⟨by kernel_rfl, fun j t ht => by
        rw [Tryd.params5] at ht
        have hm : t ∈ [22, 22] := by simpa using Array.mem_of_getElem? ht
        have hall : ([22, 22].all fun u => !Tryd.prog.wantsStandIn u) = true := by kernel_rfl
        exact (show Tryd.prog.wantsStandIn t = false by simpa using List.all_eq_true.1 hall t hm)⟩)
    (by kernel_rfl)
end chainEqual
end Go.Proofs.YtllcgehfmkmcdaaDoor
