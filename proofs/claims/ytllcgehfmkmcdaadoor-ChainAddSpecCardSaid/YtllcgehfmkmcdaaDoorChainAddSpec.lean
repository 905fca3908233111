/- Adding a link and where two chains part agree with the specification. No condition. -/
import Derived.Test.YtllcgehfmkmcdaaDoorChnRAd
import Derived.Test.YtllcgehfmkmcdaaDoorChnRPt
import Derived.Test.YtllcgehfmkmcdaaDoorChainParts
namespace Go.Proofs.YtllcgehfmkmcdaaDoor
open Go.ChangeShapes Go.WideShapes Go.ChangeAt Go.RowKit Go.WideElems Go.Shelf
set_option linter.unusedVariables false
set_option linter.unusedSimpArgs false

theorem getD_app2 {ls : List Lk} {y : Lk} {i : Nat} (h : i < ls.length) : (ls ++ [y]).getD i lk0 = ls.getD i lk0 := by
  rw [List.getD_eq_getElem?_getD, List.getD_eq_getElem?_getD, List.getElem?_append_left h]
theorem isSm_refl2 (ls : List Lk) : IsSm ls ls true := ⟨fun _ => rfl, fun k hk hf => by
  rw [show samB (ls.getD k lk0) (ls.getD k lk0) = true from samB_iff.2 ⟨rfl, rfl, rfl, rfl⟩] at hf; cases hf⟩
theorem isSm_app (ls : List Lk) {x y : Lk} (h : samB x y = true) : IsSm (ls ++ [x]) (ls ++ [y]) true := ⟨fun _ => rfl, fun k hk hf => by
  rw [List.length_append, List.length_singleton] at hk
  rcases Nat.lt_or_ge k ls.length with h1 | h1
  · rw [getD_app2 h1, getD_app2 h1, show samB (ls.getD k lk0) (ls.getD k lk0) = true from samB_iff.2 ⟨rfl, rfl, rfl, rfl⟩] at hf; cases hf
  · obtain rfl : k = ls.length := by omega
    rw [show (ls ++ [x]).getD ls.length lk0 = x by simp [List.getD], show (ls ++ [y]).getD ls.length lk0 = y by simp [List.getD], h] at hf; cases hf⟩
theorem cadd_ok (p : Option Addr) (n c j : Nat) (ls : List Lk) (nd : Int) (q : Option Addr) (m d : Nat) (bs : List Int) (w : World) (hs : Hid (LksV w p n c ls)) (hsm : Hid (Small ls)) (hkey : Hid (KeysAt w)) (he : Hid (IsChk ls 0)) (hhd : 0 < n → (ls.getD 0 lk0).node = nd) (hv : Hid (nodeB nd = true)) (hz : Hid (SrcW w q m d bs)) (hr8 : Hid (∀ z ∈ bs, 0 ≤ z ∧ z ≤ 255)) (hm : m ≤ 65536) (hj : n + 1 = j) (ds : List Int) (hd : Hid (IsHead ls ds)) :
    Calls Tryd.prog 10 #[.slice p n c, .int .i64 nd, .slice q m d] w fun e w' => ∃ g cap q2 c2, e = .returned (.tuple #[.slice (some ⟨g, 0, none⟩) j cap, .int .i64 0]) ∧ LksV w' (some ⟨g, 0, none⟩) j cap (ls ++ [⟨nd, n, ds, q2, m, c2, bs⟩]) ∧ Below w.heap.size w w' := by
  subst hj
  by_cases h0 : n = 0
  · refine (cadd_ok0 p n c ls nd q m d bs w hs hsm hkey he hv h0 hz hr8 hm ds hd).mono ?_
    rintro e w' ⟨g, cap, q2, c2, rfl, h1, h2, h3⟩
    subst h0
    exact ⟨g, cap, q2, c2, rfl, h1, h3⟩
  · refine (cadd_ok1 p n c ls nd q m d bs w hs hsm hkey he hv (by omega) (hhd (by omega)) hz hr8 hm ds hd).mono ?_
    rintro e w' ⟨g, cap, q2, c2, rfl, h1, h2, h3⟩
    exact ⟨g, cap, q2, c2, rfl, h1, h3⟩
theorem radd_ok (p : Option Addr) (n c j : Nat) (ls : List Lk) (nd : Int) (q : Option Addr) (m d : Nat) (bs : List Int) (w : World) (hs : Hid (LksV w p n c ls)) (hsm : Hid (Small ls)) (he : Hid (IsChk ls 0)) (hhd : 0 < n → (ls.getD 0 lk0).node = nd) (hv0 : 0 ≤ nd) (hv1 : nd < 24) (hz : Hid (SrcW w q m d bs)) (hr8 : Hid (∀ z ∈ bs, 0 ≤ z ∧ z ≤ 255)) (hmd : m ≤ d) (hdm : d ≤ 9223372036854775807) (hm : m ≤ 65536) (hj : n + 1 = j) (ds : List Int) (hd : Hid (IsHead ls ds)) :
    Calls Tryd.prog 11 #[.slice p n c, .int .i64 nd, .slice q m d] w fun e w' => ∃ g cap, e = .returned (.tuple #[.slice (some ⟨g, 0, none⟩) j cap, .int .i64 0]) ∧ LksV w' (some ⟨g, 0, none⟩) j cap (ls ++ [⟨nd, n, ds, q, m, d, bs⟩]) ∧ Below w.heap.size w w' := by
  by_cases h0 : n = 0
  · refine (radd_ok0 p n c ls nd q m d bs w hs hsm he hv0 hv1 h0 j (Lib.hid hj) hz hr8 hmd hdm hm ds hd).mono ?_
    rintro e w' ⟨g, cap, rfl, h1, h2⟩
    subst h0
    exact ⟨g, cap, rfl, h1, h2⟩
  · exact radd_ok1 p n c ls nd q m d bs w hs hsm he hv0 hv1 (by omega) (hhd (by omega)) j (Lib.hid hj) hz hr8 hmd hdm hm ds hd
theorem isFst_ex (ls ms : List Lk) (t : Nat) : ∃ ri rb, IsFst ls ms t ri rb := by
  rcases fst_ex (fun j => samB (ls.getD j lk0) (ms.getD j lk0)) t with h | ⟨k, hk, h, hf⟩
  · exact ⟨_, _, fst_all h⟩
  · exact ⟨_, _, fst_at hk h hf⟩
theorem part_both (p : Option Addr) (n c : Nat) (ls : List Lk) (q : Option Addr) (m d : Nat) (ms : List Lk) (w : World) (hs : Hid (LksV w p n c ls)) (hz : Hid (LksV w q m d ms)) (hkey : Hid (KeysAt w)) (sa : Hid (Small ls)) (sb : Hid (Small ms)) :
    ∃ (ri : Int) (rb : Bool) (re : Int), Hid (∀ g : World, Below w.heap.size w g → Calls Tryd.prog 12 #[.slice p n c, .slice q m d] g fun e w' => e = .returned (.tuple #[.int .i64 ri, .bool rb, .int .i64 re]) ∧ Below g.heap.size g w') ∧ Hid (∀ g : World, Below w.heap.size w g → Calls Tryd.prog 13 #[.slice p n c, .slice q m d] g fun e w' => e = .returned (.tuple #[.int .i64 ri, .bool rb, .int .i64 re]) ∧ Below g.heap.size g w') := by
  have K : ∀ q : World, Below w.heap.size w q → Hid (KeysAt q) := fun q hq => Lib.hid (hkey.out.below hq)
  have X : ∀ g : World, Below w.heap.size w g → Hid (LksV g p n c ls) := fun g hg => Lib.hid (hs.out.below hg)
  have Y : ∀ g : World, Below w.heap.size w g → Hid (LksV g q m d ms) := fun g hg => Lib.hid (hz.out.below hg)
  obtain ⟨ea, ha⟩ := isChk ls
  rcases ha.two with rfl | rfl
  case inr => exact ⟨0, false, 80, Lib.hid fun g hg => cpart_a p q n c m d ls ms g (X g hg) (Y g hg) sa sb (K g hg) (Lib.hid ha), Lib.hid fun g hg => rpart_a p q n c m d ls ms g (X g hg) (Y g hg) sa sb (Lib.hid ha)⟩
  obtain ⟨eb, hb⟩ := isChk ms
  rcases hb.two with rfl | rfl
  case inr => exact ⟨0, false, 80, Lib.hid fun g hg => cpart_b p q n c m d ls ms g (X g hg) (Y g hg) sa sb (K g hg) (Lib.hid ha) (Lib.hid hb), Lib.hid fun g hg => rpart_b p q n c m d ls ms g (X g hg) (Y g hg) sa sb (Lib.hid ha) (Lib.hid hb)⟩
  by_cases hdf : 0 < n ∧ 0 < m ∧ ¬ (ls.getD 0 lk0).node = (ms.getD 0 lk0).node
  · exact ⟨0, false, 80, Lib.hid fun g hg => cpart_diff p q n c m d ls ms g (X g hg) (Y g hg) sa sb (K g hg) (Lib.hid ha) (Lib.hid hb) hdf.1 hdf.2.1 hdf.2.2, Lib.hid fun g hg => rpart_diff p q n c m d ls ms g (X g hg) (Y g hg) sa sb (Lib.hid ha) (Lib.hid hb) hdf.1 hdf.2.1 hdf.2.2⟩
  obtain ⟨ri, rb, hr⟩ := isFst_ex ls ms (min n m)
  have HR := Lib.hid hr
  refine ⟨ri, rb, 0, ?_, ?_⟩
  · by_cases h0 : n = 0
    · exact Lib.hid fun g hg => cpart_n0 p q n c m d ls ms g (X g hg) (Y g hg) sa sb (K g hg) (Lib.hid ha) (Lib.hid hb) h0 ri rb HR
    by_cases h1 : m = 0
    · exact Lib.hid fun g hg => cpart_m0 p q n c m d ls ms g (X g hg) (Y g hg) sa sb (K g hg) (Lib.hid ha) (Lib.hid hb) (by omega) h1 ri rb HR
    exact Lib.hid fun g hg => cpart_same p q n c m d ls ms g (X g hg) (Y g hg) sa sb (K g hg) (Lib.hid ha) (Lib.hid hb) (by omega) (by omega) (Classical.byContradiction fun e => hdf ⟨by omega, by omega, e⟩) ri rb HR
  · by_cases h0 : n = 0
    · exact Lib.hid fun g hg => rpart_n0 p q n c m d ls ms g (X g hg) (Y g hg) sa sb (Lib.hid ha) (Lib.hid hb) h0 ri rb HR
    by_cases h1 : m = 0
    · exact Lib.hid fun g hg => rpart_m0 p q n c m d ls ms g (X g hg) (Y g hg) sa sb (Lib.hid ha) (Lib.hid hb) (by omega) h1 ri rb HR
    exact Lib.hid fun g hg => rpart_same p q n c m d ls ms g (X g hg) (Y g hg) sa sb (Lib.hid ha) (Lib.hid hb) (by omega) (by omega) (Classical.byContradiction fun e => hdf ⟨by omega, by omega, e⟩) ri rb HR
theorem same_nil (w : World) : Calls Tryd.prog 14 #[.slice none 0 0, .slice none 0 0] w fun e w' => e = .returned (.bool true) ∧ Below w.heap.size w w' := rsame_eq none none 0 0 0 [] [] w (Lib.hid (lksNil _)) (Lib.hid (lksNil _)) (by omega) true (Lib.hid (isSm_refl2 []))
theorem same_two {g1 g2 j k1 k2 n md c2 cd : Nat} {ls : List Lk} {nd : Int} {ds bs : List Int} {q2 pd : Option Addr} (w : World) (hj : j ≤ 2000) (h1 : Hid (LksV w (some ⟨g1, 0, none⟩) j k1 (ls ++ [⟨nd, n, ds, q2, md, c2, bs⟩]))) (h2 : Hid (LksV w (some ⟨g2, 0, none⟩) j k2 (ls ++ [⟨nd, n, ds, pd, md, cd, bs⟩]))) : Calls Tryd.prog 14 #[.slice (some ⟨g1, 0, none⟩) j k1, .slice (some ⟨g2, 0, none⟩) j k2] w fun e w' => e = .returned (.bool true) ∧ Below w.heap.size w w' := rsame_eq _ _ j k1 k2 _ _ w h1 h2 hj true (Lib.hid (isSm_app ls (samB_iff.2 ⟨rfl, rfl, rfl, rfl⟩)))
set_option maxRecDepth 100000 in
set_option maxHeartbeats 8000000 in
theorem adds_f0 (p : Option Addr) (n c : Nat) (ls : List Lk) (q : Option Addr) (m d : Nat) (ms : List Lk) (nd : Int) (pd : Option Addr) (md cd : Nat) (bs : List Int) (w : World) (hs : Hid (LksV w p n c ls)) (hz : Hid (LksV w q m d ms)) (hkey : Hid (KeysAt w)) (hfa : Hid (fewB ls = false)) :
    Calls Tryd.prog 3 #[.slice p n c, .slice q m d, .int .i64 nd, .slice pd md cd] w fun r w' => r = .returned (.bool true) ∧ Below w.heap.size w w' := by
  go_enter Tryd.func3, Tryd.ntmps3
  go_wp2_with (first
    | (go_at_call 8; with_reducible refine (sane08_any w hkey).mono ?_; rintro r w1 ⟨rfl, hb⟩; have B1 := Lib.hid hb; clear hb)
    | (go_at_call 9; with_reducible refine (rfew_is p n c ls _ (Lib.hid (hs.out.below B1.out)) false hfa).mono ?_; rintro r w' ⟨rfl, rfl⟩))
  go_ret
  exact ⟨rfl, B1.out⟩
set_option maxRecDepth 100000 in
set_option maxHeartbeats 8000000 in
theorem adds_f1 (p : Option Addr) (n c : Nat) (ls : List Lk) (q : Option Addr) (m d : Nat) (ms : List Lk) (nd : Int) (pd : Option Addr) (md cd : Nat) (bs : List Int) (w : World) (hs : Hid (LksV w p n c ls)) (hz : Hid (LksV w q m d ms)) (hkey : Hid (KeysAt w)) (hfa : Hid (fewB ls = true)) (hfb : Hid (fewB ms = false)) :
    Calls Tryd.prog 3 #[.slice p n c, .slice q m d, .int .i64 nd, .slice pd md cd] w fun r w' => r = .returned (.bool true) ∧ Below w.heap.size w w' := by
  go_enter Tryd.func3, Tryd.ntmps3
  go_wp2_with (first
    | (go_at_call 8; with_reducible refine (sane08_any w hkey).mono ?_; rintro r w1 ⟨rfl, hb⟩; have B1 := Lib.hid hb; clear hb)
    | (go_at_call 9; with_reducible refine (rfew_is p n c ls _ (Lib.hid (hs.out.below B1.out)) true hfa).mono ?_; rintro r w' ⟨rfl, rfl⟩)
    | (go_at_call 9; with_reducible refine (rfew_is q m d ms _ (Lib.hid (hz.out.below B1.out)) false hfb).mono ?_; rintro r w' ⟨rfl, rfl⟩))
  go_ret
  exact ⟨rfl, B1.out⟩
set_option maxRecDepth 100000 in
set_option maxHeartbeats 8000000 in
theorem adds_f2 (p : Option Addr) (n c : Nat) (ls : List Lk) (q : Option Addr) (m d : Nat) (ms : List Lk) (nd : Int) (pd : Option Addr) (md cd : Nat) (bs : List Int) (w : World) (hs : Hid (LksV w p n c ls)) (hz : Hid (LksV w q m d ms)) (hkey : Hid (KeysAt w)) (hfa : Hid (fewB ls = true)) (hfb : Hid (fewB ms = true)) (h3 : 300 < md) (h4 : md ≤ 65536) :
    Calls Tryd.prog 3 #[.slice p n c, .slice q m d, .int .i64 nd, .slice pd md cd] w fun r w' => r = .returned (.bool true) ∧ Below w.heap.size w w' := by
  have hd1 : decide ((300 : Int) < (md : Int)) = true := decide_eq_true (by omega)
  have hd2 : decide ((md : Int) ≤ 65536) = true := decide_eq_true (by omega)
  go_enter Tryd.func3, Tryd.ntmps3
  go_wp2_with (first
    | (go_at_call 8; with_reducible refine (sane08_any w hkey).mono ?_; rintro r w1 ⟨rfl, hb⟩; have B1 := Lib.hid hb; clear hb)
    | (go_at_call 9; with_reducible refine (rfew_is p n c ls _ (Lib.hid (hs.out.below B1.out)) true hfa).mono ?_; rintro r w' ⟨rfl, rfl⟩)
    | (go_at_call 9; with_reducible refine (rfew_is q m d ms _ (Lib.hid (hz.out.below B1.out)) true hfb).mono ?_; rintro r w' ⟨rfl, rfl⟩))
  go_ret
  exact ⟨rfl, B1.out⟩
set_option maxRecDepth 100000 in
set_option maxHeartbeats 8000000 in
theorem adds_ea (p : Option Addr) (n c : Nat) (ls : List Lk) (q : Option Addr) (m d : Nat) (ms : List Lk) (nd : Int) (pd : Option Addr) (md cd : Nat) (bs : List Int) (w : World) (hs : Hid (LksV w p n c ls)) (hz : Hid (LksV w q m d ms)) (hkey : Hid (KeysAt w)) (hfa : Hid (fewB ls = true)) (hfb : Hid (fewB ms = true)) (h3 : md ≤ 300) (er : Int) (HA1 : Hid (∀ g : World, Below w.heap.size w g → Calls Tryd.prog 10 #[.slice p n c, .int .i64 nd, .slice pd md cd] g fun e w' => e = .returned (.tuple #[.slice none 0 0, .int .i64 er]) ∧ Below g.heap.size g w')) (HA2 : Hid (∀ g : World, Below w.heap.size w g → Calls Tryd.prog 11 #[.slice p n c, .int .i64 nd, .slice pd md cd] g fun e w' => e = .returned (.tuple #[.slice none 0 0, .int .i64 er]) ∧ Below g.heap.size g w')) (ri : Int) (rb : Bool) (re : Int) (HP1 : Hid (∀ g : World, Below w.heap.size w g → Calls Tryd.prog 12 #[.slice p n c, .slice q m d] g fun e w' => e = .returned (.tuple #[.int .i64 ri, .bool rb, .int .i64 re]) ∧ Below g.heap.size g w')) (HP2 : Hid (∀ g : World, Below w.heap.size w g → Calls Tryd.prog 13 #[.slice p n c, .slice q m d] g fun e w' => e = .returned (.tuple #[.int .i64 ri, .bool rb, .int .i64 re]) ∧ Below g.heap.size g w')) :
    Calls Tryd.prog 3 #[.slice p n c, .slice q m d, .int .i64 nd, .slice pd md cd] w fun r w' => r = .returned (.bool true) ∧ Below w.heap.size w w' := by
  have hd1 : decide ((300 : Int) < (md : Int)) = false := decide_eq_false (by omega)
  go_enter Tryd.func3, Tryd.ntmps3
  go_wp2_with (first
    | (go_at_call 8; with_reducible refine (sane08_any w hkey).mono ?_; rintro r w1 ⟨rfl, hb⟩; have B1 := Lib.hid hb; clear hb)
    | (go_at_call 9; with_reducible refine (rfew_is p n c ls _ (Lib.hid (hs.out.below B1.out)) true hfa).mono ?_; rintro r w' ⟨rfl, rfl⟩)
    | (go_at_call 9; with_reducible refine (rfew_is q m d ms _ (Lib.hid (hz.out.below B1.out)) true hfb).mono ?_; rintro r w' ⟨rfl, rfl⟩)
    | (go_at_call 10; with_reducible refine (HA1.out _ B1.out).mono ?_; rintro r w2 ⟨rfl, hb⟩; have B2 := Lib.hid (bel_trans B1.out hb); clear hb)
    | (go_at_call 11; with_reducible refine (HA2.out _ B2.out).mono ?_; rintro r w3 ⟨rfl, hb⟩; have B3 := Lib.hid (bel_trans B2.out hb); clear hb)
    | (go_at_call 12; with_reducible refine (HP1.out _ B3.out).mono ?_; rintro r w4 ⟨rfl, hb⟩; have B4 := Lib.hid (bel_trans B3.out hb); clear hb)
    | (go_at_call 13; with_reducible refine (HP2.out _ B4.out).mono ?_; rintro r w5 ⟨rfl, hb⟩; have B5 := Lib.hid (bel_trans B4.out hb); clear hb)
    | (go_at_call 14; with_reducible refine (same_nil _).mono ?_; rintro r w6 ⟨rfl, hb⟩; have B6 := Lib.hid (bel_trans B5.out hb); clear hb))
  go_ret
  exact ⟨rfl, B6.out⟩
set_option maxRecDepth 100000 in
set_option maxHeartbeats 8000000 in
theorem adds_eb (p : Option Addr) (n c : Nat) (ls : List Lk) (q : Option Addr) (m d : Nat) (ms : List Lk) (nd : Int) (pd : Option Addr) (md cd : Nat) (bs : List Int) (w : World) (hs : Hid (LksV w p n c ls)) (hz : Hid (LksV w q m d ms)) (hkey : Hid (KeysAt w)) (hfa : Hid (fewB ls = true)) (hfb : Hid (fewB ms = true)) (h3 : 65536 < md) (er : Int) (HA1 : Hid (∀ g : World, Below w.heap.size w g → Calls Tryd.prog 10 #[.slice p n c, .int .i64 nd, .slice pd md cd] g fun e w' => e = .returned (.tuple #[.slice none 0 0, .int .i64 er]) ∧ Below g.heap.size g w')) (HA2 : Hid (∀ g : World, Below w.heap.size w g → Calls Tryd.prog 11 #[.slice p n c, .int .i64 nd, .slice pd md cd] g fun e w' => e = .returned (.tuple #[.slice none 0 0, .int .i64 er]) ∧ Below g.heap.size g w')) (ri : Int) (rb : Bool) (re : Int) (HP1 : Hid (∀ g : World, Below w.heap.size w g → Calls Tryd.prog 12 #[.slice p n c, .slice q m d] g fun e w' => e = .returned (.tuple #[.int .i64 ri, .bool rb, .int .i64 re]) ∧ Below g.heap.size g w')) (HP2 : Hid (∀ g : World, Below w.heap.size w g → Calls Tryd.prog 13 #[.slice p n c, .slice q m d] g fun e w' => e = .returned (.tuple #[.int .i64 ri, .bool rb, .int .i64 re]) ∧ Below g.heap.size g w')) :
    Calls Tryd.prog 3 #[.slice p n c, .slice q m d, .int .i64 nd, .slice pd md cd] w fun r w' => r = .returned (.bool true) ∧ Below w.heap.size w w' := by
  have hd1 : decide ((300 : Int) < (md : Int)) = true := decide_eq_true (by omega)
  have hd2 : decide ((md : Int) ≤ 65536) = false := decide_eq_false (by omega)
  go_enter Tryd.func3, Tryd.ntmps3
  go_wp2_with (first
    | (go_at_call 8; with_reducible refine (sane08_any w hkey).mono ?_; rintro r w1 ⟨rfl, hb⟩; have B1 := Lib.hid hb; clear hb)
    | (go_at_call 9; with_reducible refine (rfew_is p n c ls _ (Lib.hid (hs.out.below B1.out)) true hfa).mono ?_; rintro r w' ⟨rfl, rfl⟩)
    | (go_at_call 9; with_reducible refine (rfew_is q m d ms _ (Lib.hid (hz.out.below B1.out)) true hfb).mono ?_; rintro r w' ⟨rfl, rfl⟩)
    | (go_at_call 10; with_reducible refine (HA1.out _ B1.out).mono ?_; rintro r w2 ⟨rfl, hb⟩; have B2 := Lib.hid (bel_trans B1.out hb); clear hb)
    | (go_at_call 11; with_reducible refine (HA2.out _ B2.out).mono ?_; rintro r w3 ⟨rfl, hb⟩; have B3 := Lib.hid (bel_trans B2.out hb); clear hb)
    | (go_at_call 12; with_reducible refine (HP1.out _ B3.out).mono ?_; rintro r w4 ⟨rfl, hb⟩; have B4 := Lib.hid (bel_trans B3.out hb); clear hb)
    | (go_at_call 13; with_reducible refine (HP2.out _ B4.out).mono ?_; rintro r w5 ⟨rfl, hb⟩; have B5 := Lib.hid (bel_trans B4.out hb); clear hb)
    | (go_at_call 14; with_reducible refine (same_nil _).mono ?_; rintro r w6 ⟨rfl, hb⟩; have B6 := Lib.hid (bel_trans B5.out hb); clear hb))
  go_ret
  exact ⟨rfl, B6.out⟩
set_option maxRecDepth 100000 in
set_option maxHeartbeats 8000000 in
theorem adds_ok (p : Option Addr) (n c : Nat) (ls : List Lk) (q : Option Addr) (m d : Nat) (ms : List Lk) (nd : Int) (pd : Option Addr) (md cd : Nat) (bs : List Int) (w : World) (hs : Hid (LksV w p n c ls)) (hz : Hid (LksV w q m d ms)) (hkey : Hid (KeysAt w)) (hfa : Hid (fewB ls = true)) (hfb : Hid (fewB ms = true)) (h3 : md ≤ 300) (j : Nat) (hj17 : j ≤ 2000) (ds : List Int) (HA1 : Hid (∀ g : World, Below w.heap.size w g → Calls Tryd.prog 10 #[.slice p n c, .int .i64 nd, .slice pd md cd] g fun e w' => ∃ g1 cap q2 c2, e = .returned (.tuple #[.slice (some ⟨g1, 0, none⟩) j cap, .int .i64 0]) ∧ LksV w' (some ⟨g1, 0, none⟩) j cap (ls ++ [⟨nd, n, ds, q2, md, c2, bs⟩]) ∧ Below g.heap.size g w')) (HA2 : Hid (∀ g : World, Below w.heap.size w g → Calls Tryd.prog 11 #[.slice p n c, .int .i64 nd, .slice pd md cd] g fun e w' => ∃ g1 cap, e = .returned (.tuple #[.slice (some ⟨g1, 0, none⟩) j cap, .int .i64 0]) ∧ LksV w' (some ⟨g1, 0, none⟩) j cap (ls ++ [⟨nd, n, ds, pd, md, cd, bs⟩]) ∧ Below g.heap.size g w')) (ri : Int) (rb : Bool) (re : Int) (HP1 : Hid (∀ g : World, Below w.heap.size w g → Calls Tryd.prog 12 #[.slice p n c, .slice q m d] g fun e w' => e = .returned (.tuple #[.int .i64 ri, .bool rb, .int .i64 re]) ∧ Below g.heap.size g w')) (HP2 : Hid (∀ g : World, Below w.heap.size w g → Calls Tryd.prog 13 #[.slice p n c, .slice q m d] g fun e w' => e = .returned (.tuple #[.int .i64 ri, .bool rb, .int .i64 re]) ∧ Below g.heap.size g w')) :
    Calls Tryd.prog 3 #[.slice p n c, .slice q m d, .int .i64 nd, .slice pd md cd] w fun r w' => r = .returned (.bool true) ∧ Below w.heap.size w w' := by
  have hd1 : decide ((300 : Int) < (md : Int)) = false := decide_eq_false (by omega)
  go_enter Tryd.func3, Tryd.ntmps3
  go_wp2_with (first
    | (go_at_call 8; with_reducible refine (sane08_any w hkey).mono ?_; rintro r w1 ⟨rfl, hb⟩; have B1 := Lib.hid hb; clear hb)
    | (go_at_call 9; with_reducible refine (rfew_is p n c ls _ (Lib.hid (hs.out.below B1.out)) true hfa).mono ?_; rintro r w' ⟨rfl, rfl⟩)
    | (go_at_call 9; with_reducible refine (rfew_is q m d ms _ (Lib.hid (hz.out.below B1.out)) true hfb).mono ?_; rintro r w' ⟨rfl, rfl⟩)
    | (go_at_call 10; with_reducible refine (HA1.out _ B1.out).mono ?_; rintro r w2 ⟨g1, k1, q2, c2, rfl, hV, hb⟩; have L2 := Lib.hid hV; have B2 := Lib.hid (bel_trans B1.out hb); clear hb hV)
    | (go_at_call 11; with_reducible refine (HA2.out _ B2.out).mono ?_; rintro r w3 ⟨g2, k2, rfl, hV, hb⟩; have M3 := Lib.hid hV; have L3 := Lib.hid (L2.out.below hb); have B3 := Lib.hid (bel_trans B2.out hb); clear hb hV)
    | (go_at_call 12; with_reducible refine (HP1.out _ B3.out).mono ?_; rintro r w4 ⟨rfl, hb⟩; have B4 := Lib.hid (bel_trans B3.out hb); have L4 := Lib.hid (L3.out.below hb); have M4 := Lib.hid (M3.out.below hb); clear hb)
    | (go_at_call 13; with_reducible refine (HP2.out _ B4.out).mono ?_; rintro r w5 ⟨rfl, hb⟩; have B5 := Lib.hid (bel_trans B4.out hb); have L5 := Lib.hid (L4.out.below hb); have M5 := Lib.hid (M4.out.below hb); clear hb)
    | (go_at_call 14; with_reducible refine (same_two _ hj17 L5 M5).mono ?_; rintro r w6 ⟨rfl, hb⟩; have B6 := Lib.hid (bel_trans B5.out hb); clear hb))
  go_ret
  exact ⟨rfl, B6.out⟩
theorem adds_walk (p : Option Addr) (n c : Nat) (ls : List Lk) (q : Option Addr) (m d : Nat) (ms : List Lk) (nd : Int) (pd : Option Addr) (md cd : Nat) (bs : List Int) (w : World) (hs : Hid (LksV w p n c ls)) (hz : Hid (LksV w q m d ms)) (hkey : Hid (KeysAt w)) (hd : Hid (SrcW w pd md cd bs)) (hr8 : Hid (∀ z ∈ bs, 0 ≤ z ∧ z ≤ 255)) (hmc : md ≤ cd) (hcm : cd ≤ 9223372036854775807) :
    Calls Tryd.prog 3 #[.slice p n c, .slice q m d, .int .i64 nd, .slice pd md cd] w fun r w' => r = .returned (.bool true) ∧ Below w.heap.size w w' := by
  cases hfa : fewB ls with
  | false => exact adds_f0 p n c ls q m d ms nd pd md cd bs w hs hz hkey (Lib.hid hfa)
  | true =>
  cases hfb : fewB ms with
  | false => exact adds_f1 p n c ls q m d ms nd pd md cd bs w hs hz hkey (Lib.hid hfa) (Lib.hid hfb)
  | true =>
  by_cases h34 : 300 < md ∧ md ≤ 65536
  · exact adds_f2 p n c ls q m d ms nd pd md cd bs w hs hz hkey (Lib.hid hfa) (Lib.hid hfb) h34.1 h34.2
  have sa := Lib.hid (few_small hfa)
  have sb := Lib.hid (few_small hfb)
  have hln := hs.out.len
  obtain ⟨ri, rb, re, HP1, HP2⟩ := part_both p n c ls q m d ms w hs hz hkey sa sb
  have fin : ∀ er : Int, Hid (∀ g : World, Below w.heap.size w g → Calls Tryd.prog 10 #[.slice p n c, .int .i64 nd, .slice pd md cd] g fun e w' => e = .returned (.tuple #[.slice none 0 0, .int .i64 er]) ∧ Below g.heap.size g w') → Hid (∀ g : World, Below w.heap.size w g → Calls Tryd.prog 11 #[.slice p n c, .int .i64 nd, .slice pd md cd] g fun e w' => e = .returned (.tuple #[.slice none 0 0, .int .i64 er]) ∧ Below g.heap.size g w') → Calls Tryd.prog 3 #[.slice p n c, .slice q m d, .int .i64 nd, .slice pd md cd] w fun r w' => r = .returned (.bool true) ∧ Below w.heap.size w w' := fun er H1 H2 => by
    by_cases h3 : md ≤ 300
    · exact adds_ea p n c ls q m d ms nd pd md cd bs w hs hz hkey (Lib.hid hfa) (Lib.hid hfb) h3 er H1 H2 ri rb re HP1 HP2
    · exact adds_eb p n c ls q m d ms nd pd md cd bs w hs hz hkey (Lib.hid hfa) (Lib.hid hfb) (by omega) er H1 H2 ri rb re HP1 HP2
  obtain ⟨ea, ha⟩ := isChk ls
  rcases ha.two with rfl | rfl
  case inr => exact fin 80 (Lib.hid fun g hg => cadd_chk p n c ls nd pd md cd bs g (Lib.hid (hs.out.below hg)) sa (Lib.hid (hkey.out.below hg)) (Lib.hid ha)) (Lib.hid fun g hg => radd_chk p n c ls nd pd md cd bs g (Lib.hid (hs.out.below hg)) sa (Lib.hid ha))
  by_cases hv0 : nd < 0
  · exact fin 1 (Lib.hid fun g hg => cadd_arg0 p n c ls nd pd md cd bs g (Lib.hid (hs.out.below hg)) sa (Lib.hid (hkey.out.below hg)) (Lib.hid ha) (Lib.hid (by unfold nodeB; simp; omega))) (Lib.hid fun g hg => radd_neg p n c ls nd pd md cd bs g (Lib.hid (hs.out.below hg)) sa (Lib.hid ha) hv0)
  by_cases hv1 : 24 ≤ nd
  · exact fin 1 (Lib.hid fun g hg => cadd_arg0 p n c ls nd pd md cd bs g (Lib.hid (hs.out.below hg)) sa (Lib.hid (hkey.out.below hg)) (Lib.hid ha) (Lib.hid (by unfold nodeB; simp; omega))) (Lib.hid fun g hg => radd_max p n c ls nd pd md cd bs g (Lib.hid (hs.out.below hg)) sa (Lib.hid ha) hv1)
  have hv := Lib.hid (show nodeB nd = true by unfold nodeB; simp; omega)
  by_cases hsn : 0 < n ∧ ¬ (ls.getD 0 lk0).node = nd
  · exact fin 1 (Lib.hid fun g hg => cadd_arg1 p n c ls nd pd md cd bs g (Lib.hid (hs.out.below hg)) sa (Lib.hid (hkey.out.below hg)) (Lib.hid ha) hv hsn.1 hsn.2) (Lib.hid fun g hg => radd_arg1 p n c ls nd pd md cd bs g (Lib.hid (hs.out.below hg)) sa (Lib.hid ha) (by omega) (by omega) hsn.1 hsn.2)
  have hhd : 0 < n → (ls.getD 0 lk0).node = nd := fun h => Classical.byContradiction fun e => hsn ⟨h, e⟩
  by_cases h3 : md ≤ 300
  · obtain ⟨ds, hds⟩ := isHead ls
    have hn16 : n ≤ 40 := by have := sa.out.n; omega
    exact adds_ok p n c ls q m d ms nd pd md cd bs w hs hz hkey (Lib.hid hfa) (Lib.hid hfb) h3 (n + 1) (by omega) ds (Lib.hid fun g hg => cadd_ok p n c (n + 1) ls nd pd md cd bs g (Lib.hid (hs.out.below hg)) sa (Lib.hid (hkey.out.below hg)) (Lib.hid ha) hhd hv (Lib.hid (hd.out.below hg)) hr8 (by omega) rfl ds (Lib.hid hds)) (Lib.hid fun g hg => radd_ok p n c (n + 1) ls nd pd md cd bs g (Lib.hid (hs.out.below hg)) sa (Lib.hid ha) hhd (by omega) (by omega) (Lib.hid (hd.out.below hg)) hr8 hmc hcm (by omega) rfl ds (Lib.hid hds)) ri rb re HP1 HP2
  · by_cases h0 : n = 0
    · exact fin 1 (Lib.hid fun g hg => cadd_big0 p n c ls nd pd md cd bs g (Lib.hid (hs.out.below hg)) sa (Lib.hid (hkey.out.below hg)) (Lib.hid ha) hv h0 (by omega)) (Lib.hid fun g hg => radd_big0 p n c ls nd pd md cd bs g (Lib.hid (hs.out.below hg)) sa (Lib.hid ha) (by omega) (by omega) h0 (by omega))
    · exact fin 1 (Lib.hid fun g hg => cadd_big1 p n c ls nd pd md cd bs g (Lib.hid (hs.out.below hg)) sa (Lib.hid (hkey.out.below hg)) (Lib.hid ha) hv (by omega) (hhd (by omega)) (by omega)) (Lib.hid fun g hg => radd_big1 p n c ls nd pd md cd bs g (Lib.hid (hs.out.below hg)) sa (Lib.hid ha) (by omega) (by omega) (by omega) (hhd (by omega)) (by omega))

namespace chainAddSpec
theorem readable : ∀ t ∈ Tryd.f3.params.toList, Tryd.prog.readableRec t = true ∧ t < Tryd.prog.types.size := by
  rw [Tryd.params3]
  intro t ht
  simp only [List.mem_cons, List.not_mem_nil, or_false] at ht
  rcases ht with rfl | rfl | rfl | rfl
  all_goals exact ⟨by kernel_rfl, by decide +kernel⟩

set_option maxRecDepth 100000 in
theorem lifted (os : Os) (started : os.Started) (H : Type) (enc : TypeId × Value → H) :
    ReturnsInHanded {} Tryd.checked os 3 .any (fun w args => (Rows.chainAddSpecSpec.pre enc Tryd.prog Tryd.f3 [] false w args ∧ laidMetH Tryd.prog laidK w) ∧ sizedMet enc Tryd.prog Tryd.f3 (OpenSpec.ofChange Rows.chainAddSpecSpec) false w args)
      (Rows.chainAddSpecSpec.post enc Tryd.prog Tryd.f3 false true false false) := by
  refine returnsInHanded_of_change_and (C := Tryd.checked) (X := fun w _ => laidMetH Tryd.prog laidK w) (fun _ _ _ hh h => h.of_heap hh) own_knob started (by kernel_rfl) Tryd.func3
    (ChangeSpec.witness_shaped (enc := enc) (C := Tryd.checked) (os := os) (X := fun w _ => laidMetH Tryd.prog laidK w) false (World.doorLaid Tryd.prog 400 os) #[.slice none 0 0, .slice none 0 0, .int .i64 0, .slice none 0 0] 8 rfl (World.shaped_of_RefB (by kernel_rfl) (by kernel_rfl)) (by kernel_rfl) (by kernel_rfl) (by kernel_rfl) (door_met os _)) ?_
  intro W base args ds gs before hval0 hW _ _ hL _
  have hval : ∀ (j : Nat) t v, Tryd.f3.params[j]? = some t → args[j]? = some v → Value.okWide Tryd.prog W .any base t v := hval0
  have hW' := hW
  obtain ⟨p, q, hA0, hV, rfl, hfz, hnd⟩ := hW
  have hA : DataW.TrodAll enc Tryd.prog W 0 (fun _ => true) true Tryd.f3.params.toList args.toList ds p := hA0
  rw [Tryd.params3] at hA hval
  obtain ⟨v0, vs0, d0, ds0, p0, q0, hargs, rfl, rfl, h0, r0⟩ := trodAll_cons hA
  obtain ⟨v1, vs1, d1, ds1, p1, q1, rfl, rfl, rfl, h1, r1⟩ := trodAll_cons r0
  obtain ⟨v2, vs2, d2, ds2, p2, q2, rfl, rfl, rfl, h2, r2⟩ := trodAll_cons r1
  obtain ⟨v3, vs3, d3, ds3, p3, q3, rfl, rfl, rfl, h3, r3⟩ := trodAll_cons r2
  obtain ⟨rfl, rfl, rfl⟩ := trodAll_nil r3
  obtain rfl : args = #[v0, v1, v2, v3] := by cases args; simp_all
  obtain ⟨rfl, rfl⟩ := trodVars_none hV
  obtain ⟨s0, n0, c0, l0, rfl, w0⟩ := open_links (hval 0 22 v0 rfl rfl) h0
  obtain ⟨s1, n1, c1, l1, rfl, w1⟩ := open_links (hval 1 22 v1 rfl rfl) h1
  obtain ⟨a2, rfl, rfl, rfl, w2⟩ := open_int Tryd.underlying3 (hval 2 3 v2 rfl rfl) h2
  obtain ⟨s3, n3, c3, z3, rfl, w3, x3, y3, u3⟩ := open_src Tryd.underlying23 Tryd.underlying5 (by kernel_rfl) (hval 3 23 v3 rfl rfl) h3
  have hK := of_laid hL
  clear hA0 hval0
  refine (adds_walk s0 n0 c0 l0 s1 n1 c1 l1 a2 s3 n3 c3 z3 W (Lib.hid w0) (Lib.hid w1) (Lib.hid hK) (Lib.hid w3) (Lib.hid x3) y3 (by have := u3; unfold maxLen at this; omega)).mono fun e W' ⟨he, hb⟩ => ?_
  subst he
  exact ⟨_, rfl, law_post laid_out readable rfl rfl Tryd.underlying4 hW' rfl rfl rfl hb⟩

theorem over : Rows.chainAddSpecRow.holds Tryd.pinned (OpenSpec.ofChange Rows.chainAddSpecSpec) :=
  OpenClaim.holds_of_wide 3 Tryd.f3 rfl rfl rfl rfl rfl rfl rfl ⟨rfl, rfl, rfl, rfl, rfl⟩ rfl rfl rfl rfl rfl (by kernel_rfl) Tryd.func3 (by kernel_rfl)
    (of_decide_eq_true (by kernel_rfl)) (by unfold Func.isWrapper; first | (rw [if_pos (by decide +kernel)]; kernel_rfl) | (rw [if_neg (by decide +kernel)]; exact ⟨rfl, rfl⟩))
    (fun os started H enc _ => lifted os started H enc)

/-- the statement: the tied card -/
theorem proved : Rows.ChainAddSpecCardSaid :=
  Claim7.holds_tied_plain_at .later [] [.data] true (true, "40284c324d3d6a13069895ce4ab99fdefbc2f5f94b227550a7a899fa5adc4483") false
    over (fun _ h => by cases h) (by kernel_rfl) (fun _ h => by cases h) chainAddSpec_row_tie rfl ⟨rfl, rfl⟩ (by kernel_rfl) rfl
    (fun f fn hf hfn => by
      obtain rfl : f = 3 := Option.some.inj ((show Tryd.prog.funcNamed "franking/frankinglaw08.ChainAddSpec" = some 3 by kernel_rfl).symm.trans hf) |>.symm
      obtain rfl : fn = Tryd.f3 := (Option.some.inj (Tryd.func3.symm.trans hfn)).symm
      exact ⟨by kernel_rfl, fun j t ht => by
        rw [Tryd.params3] at ht
        have hm : t ∈ [22, 22, 3, 23] := by simpa using Array.mem_of_getElem? ht
        have hall : ([22, 22, 3, 23].all fun u => !Tryd.prog.wantsStandIn u) = true := by kernel_rfl
        exact (show Tryd.prog.wantsStandIn t = false by simpa using List.all_eq_true.1 hall t hm)⟩)
    (by kernel_rfl)
end chainAddSpec
end Go.Proofs.YtllcgehfmkmcdaaDoor
