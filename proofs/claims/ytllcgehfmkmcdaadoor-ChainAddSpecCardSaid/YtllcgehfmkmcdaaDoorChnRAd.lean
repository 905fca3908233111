/- The reference of layer 8: Add. -/
import Derived.Test.YtllcgehfmkmcdaaDoorChnRHd
import Derived.Test.YtllcgehfmkmcdaaDoorChnAdd
namespace Go.Proofs.YtllcgehfmkmcdaaDoor
open Go.RowKit
set_option linter.unusedVariables false
set_option linter.unusedSimpArgs false

theorem bel_grownK3 {w0 w w' : World} {B : Nat} {v : Value} {l : List Lk} (k : Below B w0 w) (ho : OwnK w B v l) (hg : w.grownBy w' v.ownBlock) (hB : B ≤ w.heap.size) : Below B w0 w' :=
  k.trans ⟨hg.os, hg.tape, hg.output, hg.size, fun i hi => hg.block i (by omega) (by intro e; have := (World.ownsRow.lt ho) i e.symm; omega)⟩
set_option maxRecDepth 100000 in
set_option maxHeartbeats 8000000 in
theorem radd_chk (p : Option Addr) (n c : Nat) (ls : List Lk) (nd : Int) (q : Option Addr) (m d : Nat) (bs : List Int) (w : World) (hs : Hid (LksV w p n c ls)) (hsm : Hid (Small ls)) (he : Hid (IsChk ls 80)) :
    Calls Tryd.prog 11 #[.slice p n c, .int .i64 nd, .slice q m d] w fun e w' => e = .returned (.tuple #[.slice none 0 0, .int .i64 80]) ∧ Below w.heap.size w w' := by
  have hnc := hs.out.nc
  have hcm := hs.out.cm
  have hn40 : n ≤ 40 := by have := hsm.out.n; have := hs.out.len; omega
  have hdk : decide ((n : Int) = 1024) = false := decide_eq_false (by omega)
  have hdl : (((n : Int)) == 1024) = false := by simp <;> omega
  go_enter Tryd.func11, Tryd.ntmps11
  go_wp2_with (go_at_call 23; with_reducible refine (rcheck_is p n c ls 80 _ hs hsm he).mono ?_; rintro e w1 ⟨rfl, hb⟩; have B1 := Lib.hid hb; clear hb)
  go_ret2
  exact ⟨rfl, B1.out⟩
set_option maxRecDepth 100000 in
set_option maxHeartbeats 8000000 in
theorem radd_neg (p : Option Addr) (n c : Nat) (ls : List Lk) (nd : Int) (q : Option Addr) (m d : Nat) (bs : List Int) (w : World) (hs : Hid (LksV w p n c ls)) (hsm : Hid (Small ls)) (he : Hid (IsChk ls 0)) (hv : nd < 0) :
    Calls Tryd.prog 11 #[.slice p n c, .int .i64 nd, .slice q m d] w fun e w' => e = .returned (.tuple #[.slice none 0 0, .int .i64 1]) ∧ Below w.heap.size w w' := by
  have hd1 : decide (nd < 0) = true := decide_eq_true hv
  have hnc := hs.out.nc
  have hcm := hs.out.cm
  have hn40 : n ≤ 40 := by have := hsm.out.n; have := hs.out.len; omega
  have hdk : decide ((n : Int) = 1024) = false := decide_eq_false (by omega)
  have hdl : (((n : Int)) == 1024) = false := by simp <;> omega
  go_enter Tryd.func11, Tryd.ntmps11
  go_wp2_with (go_at_call 23; with_reducible refine (rcheck_is p n c ls 0 _ hs hsm he).mono ?_; rintro e w1 ⟨rfl, hb⟩; have B1 := Lib.hid hb; clear hb)
  go_ret2
  exact ⟨rfl, B1.out⟩
set_option maxRecDepth 100000 in
set_option maxHeartbeats 8000000 in
theorem radd_max (p : Option Addr) (n c : Nat) (ls : List Lk) (nd : Int) (q : Option Addr) (m d : Nat) (bs : List Int) (w : World) (hs : Hid (LksV w p n c ls)) (hsm : Hid (Small ls)) (he : Hid (IsChk ls 0)) (hv : 24 ≤ nd) :
    Calls Tryd.prog 11 #[.slice p n c, .int .i64 nd, .slice q m d] w fun e w' => e = .returned (.tuple #[.slice none 0 0, .int .i64 1]) ∧ Below w.heap.size w w' := by
  have hd1 : decide (nd < 0) = false := decide_eq_false (by omega)
  have hd2 : decide (24 ≤ nd) = true := decide_eq_true hv
  have hnc := hs.out.nc
  have hcm := hs.out.cm
  have hn40 : n ≤ 40 := by have := hsm.out.n; have := hs.out.len; omega
  have hdk : decide ((n : Int) = 1024) = false := decide_eq_false (by omega)
  have hdl : (((n : Int)) == 1024) = false := by simp <;> omega
  go_enter Tryd.func11, Tryd.ntmps11
  go_wp2_with (go_at_call 23; with_reducible refine (rcheck_is p n c ls 0 _ hs hsm he).mono ?_; rintro e w1 ⟨rfl, hb⟩; have B1 := Lib.hid hb; clear hb)
  go_ret2
  exact ⟨rfl, B1.out⟩
set_option maxRecDepth 100000 in
set_option maxHeartbeats 8000000 in
theorem radd_arg1 (p : Option Addr) (n c : Nat) (ls : List Lk) (nd : Int) (q : Option Addr) (m d : Nat) (bs : List Int) (w : World) (hs : Hid (LksV w p n c ls)) (hsm : Hid (Small ls)) (he : Hid (IsChk ls 0)) (hv0 : 0 ≤ nd) (hv1 : nd < 24) (hn0 : 0 < n) (hsn : ¬ (ls.getD 0 lk0).node = nd) :
    Calls Tryd.prog 11 #[.slice p n c, .int .i64 nd, .slice q m d] w fun e w' => e = .returned (.tuple #[.slice none 0 0, .int .i64 1]) ∧ Below w.heap.size w w' := by
  have hd1 : decide (nd < 0) = false := decide_eq_false (by omega)
  have hd2 : decide (24 ≤ nd) = false := decide_eq_false (by omega)
  obtain ⟨b, off, hp, hb', hr, hl⟩ := hs.out.at hn0
  rw [show off + 0 * 35 = off by omega] at hr
  obtain ⟨y, hy⟩ : ∃ y, ls.getD 0 lk0 = y := ⟨_, rfl⟩
  rw [hy] at hr hl hsn
  have N0 := Lib.hid (lk_cells hr hl.len).1
  subst hp
  have hdn : decide ((0 : Int) < (n : Int)) = true := decide_eq_true (by omega)
  clear hr hl hy
  have hd3 : decide (y.node = nd) = false := decide_eq_false hsn
  have hd4 : (y.node == nd) = false := by simpa using hsn
  have hnc := hs.out.nc
  have hcm := hs.out.cm
  have hn40 : n ≤ 40 := by have := hsm.out.n; have := hs.out.len; omega
  have hdk : decide ((n : Int) = 1024) = false := decide_eq_false (by omega)
  have hdl : (((n : Int)) == 1024) = false := by simp <;> omega
  go_enter Tryd.func11, Tryd.ntmps11
  go_wp2_with (go_at_call 23; with_reducible refine (rcheck_is (some ⟨b, off, none⟩) n c ls 0 _ hs hsm he).mono ?_; rintro e w1 ⟨rfl, hb⟩; have B1 := Lib.hid hb; have n0 := (B1.out.cell (p := ⟨b, off, none⟩) hb').trans N0.out; clear hb)
  go_ret2
  exact ⟨rfl, B1.out⟩
set_option maxRecDepth 100000 in
set_option maxHeartbeats 8000000 in
theorem radd_big0 (p : Option Addr) (n c : Nat) (ls : List Lk) (nd : Int) (q : Option Addr) (m d : Nat) (bs : List Int) (w : World) (hs : Hid (LksV w p n c ls)) (hsm : Hid (Small ls)) (he : Hid (IsChk ls 0)) (hv0 : 0 ≤ nd) (hv1 : nd < 24) (hn0 : n = 0) (hm : 65536 < m) :
    Calls Tryd.prog 11 #[.slice p n c, .int .i64 nd, .slice q m d] w fun e w' => e = .returned (.tuple #[.slice none 0 0, .int .i64 1]) ∧ Below w.heap.size w w' := by
  subst hn0
  have hd1 : decide (nd < 0) = false := decide_eq_false (by omega)
  have hd2 : decide (24 ≤ nd) = false := decide_eq_false (by omega)
  have hd5 : decide ((65536 : Int) < (m : Int)) = true := decide_eq_true (by omega)
  have hnc := hs.out.nc
  have hcm := hs.out.cm
  have hn40 : 0 ≤ 40 := by have := hsm.out.n; have := hs.out.len; omega
  have hdk : decide ((0 : Int) = 1024) = false := decide_eq_false (by omega)
  have hdl : (((0 : Int)) == 1024) = false := by simp <;> omega
  go_enter Tryd.func11, Tryd.ntmps11
  go_wp2_with (go_at_call 23; with_reducible refine (rcheck_is p 0 c ls 0 _ hs hsm he).mono ?_; rintro e w1 ⟨rfl, hb⟩; have B1 := Lib.hid hb; clear hb)
  go_ret2
  exact ⟨rfl, B1.out⟩
set_option maxRecDepth 100000 in
set_option maxHeartbeats 8000000 in
theorem radd_big1 (p : Option Addr) (n c : Nat) (ls : List Lk) (nd : Int) (q : Option Addr) (m d : Nat) (bs : List Int) (w : World) (hs : Hid (LksV w p n c ls)) (hsm : Hid (Small ls)) (he : Hid (IsChk ls 0)) (hv0 : 0 ≤ nd) (hv1 : nd < 24) (hn0 : 0 < n) (hsn : (ls.getD 0 lk0).node = nd) (hm : 65536 < m) :
    Calls Tryd.prog 11 #[.slice p n c, .int .i64 nd, .slice q m d] w fun e w' => e = .returned (.tuple #[.slice none 0 0, .int .i64 1]) ∧ Below w.heap.size w w' := by
  have hd1 : decide (nd < 0) = false := decide_eq_false (by omega)
  have hd2 : decide (24 ≤ nd) = false := decide_eq_false (by omega)
  have hd5 : decide ((65536 : Int) < (m : Int)) = true := decide_eq_true (by omega)
  obtain ⟨b, off, hp, hb', hr, hl⟩ := hs.out.at hn0
  rw [show off + 0 * 35 = off by omega] at hr
  obtain ⟨y, hy⟩ : ∃ y, ls.getD 0 lk0 = y := ⟨_, rfl⟩
  rw [hy] at hr hl hsn
  have N0 := Lib.hid (lk_cells hr hl.len).1
  subst hp
  have hdn : decide ((0 : Int) < (n : Int)) = true := decide_eq_true (by omega)
  rw [hsn] at N0
  clear hr hl hy
  have hnc := hs.out.nc
  have hcm := hs.out.cm
  have hn40 : n ≤ 40 := by have := hsm.out.n; have := hs.out.len; omega
  have hdk : decide ((n : Int) = 1024) = false := decide_eq_false (by omega)
  have hdl : (((n : Int)) == 1024) = false := by simp <;> omega
  go_enter Tryd.func11, Tryd.ntmps11
  go_wp2_with (go_at_call 23; with_reducible refine (rcheck_is (some ⟨b, off, none⟩) n c ls 0 _ hs hsm he).mono ?_; rintro e w1 ⟨rfl, hb⟩; have B1 := Lib.hid hb; have n0 := (B1.out.cell (p := ⟨b, off, none⟩) hb').trans N0.out; clear hb)
  go_ret2
  exact ⟨rfl, B1.out⟩
set_option maxRecDepth 100000 in
set_option maxHeartbeats 8000000 in
theorem radd_ok0 (p : Option Addr) (n c : Nat) (ls : List Lk) (nd : Int) (q : Option Addr) (m d : Nat) (bs : List Int) (w : World) (hs : Hid (LksV w p n c ls)) (hsm : Hid (Small ls)) (he : Hid (IsChk ls 0)) (hv0 : 0 ≤ nd) (hv1 : nd < 24) (hn0 : n = 0) (j : Nat) (hj : Hid (n + 1 = j)) (hz : Hid (SrcW w q m d bs)) (hr8 : Hid (∀ z ∈ bs, 0 ≤ z ∧ z ≤ 255)) (hmd : m ≤ d) (hdm : d ≤ 9223372036854775807) (hm : m ≤ 65536) (ds : List Int) (hd : Hid (IsHead ls ds)) :
    Calls Tryd.prog 11 #[.slice p n c, .int .i64 nd, .slice q m d] w fun e w' => ∃ g cap, e = .returned (.tuple #[.slice (some ⟨g, 0, none⟩) j cap, .int .i64 0]) ∧ LksV w' (some ⟨g, 0, none⟩) j cap (ls ++ [⟨nd, 0, ds, q, m, d, bs⟩]) ∧ Below w.heap.size w w' := by
  subst hn0
  have hd1 : decide (nd < 0) = false := decide_eq_false (by omega)
  have hd2 : decide (24 ≤ nd) = false := decide_eq_false (by omega)
  have hld := Lib.hid hd.out.tg.len
  have hd5 : decide ((65536 : Int) < (m : Int)) = false := decide_eq_false (by omega)
  have hnc := hs.out.nc
  have hcm := hs.out.cm
  have hn40 : 0 ≤ 40 := by have := hsm.out.n; have := hs.out.len; omega
  have hdk : decide ((0 : Int) = 1024) = false := decide_eq_false (by omega)
  have hdl : (((0 : Int)) == 1024) = false := by simp <;> omega
  go_enter Tryd.func11, Tryd.ntmps11
  go_upto_region 8 with (go_at_call 23; with_reducible refine (rcheck_is p 0 c ls 0 _ hs hsm he).mono ?_; rintro e w1 ⟨rfl, hb⟩; have B1 := Lib.hid hb; clear hb)
  have O0 := Lib.hid (show OwnK (w1.alloc (.cells #[] 37)) w1.heap.size (.slice (some ⟨w1.heap.size, 0, none⟩) 0 0) [] from World.ownsRow_made w1 #[] 0 (Nat.le_refl _) (by unfold maxLen; omega) rfl)
  have L1 := Lib.hid (hs.out.below (B1.out.trans (bel_alloc1 w1 (.cells #[] 37) |>.mono B1.out.size)))
  go_upto_region 9 with (at_builtin; refine appKs rfl (.tmp 42) (.tmp 43) rfl w1.heap.size (.slice (some ⟨w1.heap.size, 0, none⟩) 0 0) [] rfl O0.out p 0 c ls rfl L1.out ?c2 ?c3 ?_)
  case c2 => simp only [List.length_nil]; omega
  case c3 => rw [World.size_alloc]; omega
  intro v5 w5 ho hg
  have B5 := Lib.hid (show Below w1.heap.size w1 w5 from bel_grownK3 (bel_alloc1 w1 _) O0.out hg (by rw [World.size_alloc]; omega))
  have O5 := Lib.hid (show OwnK w5 w1.heap.size v5 ls from ho)
  have BW5 := Lib.hid (bel_trans B1.out B5.out)
  clear hg ho O0 L1
  go_wp2_with (first
    | (go_at_call 24; with_reducible refine (rhead_is p 0 c ls _ (Lib.hid (hs.out.below BW5.out)) hsm ds hd).mono ?_; rintro e w6 ⟨rfl, hb⟩; have B6 := Lib.hid (bel_trans B5.out hb); have O6 := Lib.hid (O5.out.below hb); clear hb)
    | (refine list_build (by rfl) 37 #[(0, .tmp 46), (1, .tmp 48), (2, .tmp 50), (3, .tmp 51)] rfl [(0, .int .i64 nd), (1, .int .i64 0), (2, .agg (bv ds).toArray), (3, .slice q m d)] rfl _ (built_lk ⟨nd, 0, ds, q, m, d, bs⟩ hld.out) ?_)
    | (refine list_build1K (by rfl) (.tmp 52) rfl ⟨nd, 0, ds, q, m, d, bs⟩ rfl hld.out ?_)
    | (refine appK rfl (.tmp 45) (.tmp 53) rfl w1.heap.size v5 ls rfl (O6.out.below (bel_alloc1 w6 _)) w6.heap.size ⟨nd, 0, ds, q, m, d, bs⟩ rfl (KBlk.box w6 (x := ⟨nd, 0, ds, q, m, d, bs⟩) hld.out) (by have := hsm.out.n; omega) (by have := B6.out.size; rw [World.size_alloc]; omega) ?_))
  intro v7 w7 ho hg
  have B7 := Lib.hid (show Below w1.heap.size w1 w7 from bel_grownK3 (B6.out.trans ((bel_alloc1 w6 _).mono B6.out.size)) (O6.out.below (bel_alloc1 w6 _)) hg (by have := B6.out.size; rw [World.size_alloc]; omega))
  have O7 := Lib.hid ho
  have BW := Lib.hid (bel_trans B1.out B7.out)
  clear ho hg
  go_wp2_with fail
  go_ret2
  have hn := hs.out.len
  obtain ⟨g, cap, rfl, hV, hg⟩ := O7.out.val (by simp) (fun x hx => by
    rcases List.mem_append.1 hx with h | h
    · exact (hs.out.ok x h).below BW.out
    · obtain rfl := List.mem_singleton.1 h
      exact ⟨hld.out, hd.out.tg.rng, hz.out.below BW.out, hr8.out, hmd, hdm, ⟨by show _ ≤ nd; omega, by show nd ≤ _; omega⟩, ⟨by show _ ≤ (((0 : Nat)) : Int); omega, by show (((0 : Nat)) : Int) ≤ _; omega⟩⟩)
  have hj2 := hj.out
  rw [List.length_append, List.length_singleton, ← hn, hj2] at hV ⊢
  exact ⟨g, cap, rfl, hV, BW.out⟩
set_option maxRecDepth 100000 in
set_option maxHeartbeats 8000000 in
theorem radd_ok1 (p : Option Addr) (n c : Nat) (ls : List Lk) (nd : Int) (q : Option Addr) (m d : Nat) (bs : List Int) (w : World) (hs : Hid (LksV w p n c ls)) (hsm : Hid (Small ls)) (he : Hid (IsChk ls 0)) (hv0 : 0 ≤ nd) (hv1 : nd < 24) (hn0 : 0 < n) (hsn : (ls.getD 0 lk0).node = nd) (j : Nat) (hj : Hid (n + 1 = j)) (hz : Hid (SrcW w q m d bs)) (hr8 : Hid (∀ z ∈ bs, 0 ≤ z ∧ z ≤ 255)) (hmd : m ≤ d) (hdm : d ≤ 9223372036854775807) (hm : m ≤ 65536) (ds : List Int) (hd : Hid (IsHead ls ds)) :
    Calls Tryd.prog 11 #[.slice p n c, .int .i64 nd, .slice q m d] w fun e w' => ∃ g cap, e = .returned (.tuple #[.slice (some ⟨g, 0, none⟩) j cap, .int .i64 0]) ∧ LksV w' (some ⟨g, 0, none⟩) j cap (ls ++ [⟨nd, n, ds, q, m, d, bs⟩]) ∧ Below w.heap.size w w' := by
  have hd1 : decide (nd < 0) = false := decide_eq_false (by omega)
  have hd2 : decide (24 ≤ nd) = false := decide_eq_false (by omega)
  obtain ⟨b, off, hp, hb', hr, hl⟩ := hs.out.at hn0
  rw [show off + 0 * 35 = off by omega] at hr
  obtain ⟨y, hy⟩ : ∃ y, ls.getD 0 lk0 = y := ⟨_, rfl⟩
  rw [hy] at hr hl hsn
  have N0 := Lib.hid (lk_cells hr hl.len).1
  subst hp
  have hdn : decide ((0 : Int) < (n : Int)) = true := decide_eq_true (by omega)
  rw [hsn] at N0
  clear hr hl hy
  have hld := Lib.hid hd.out.tg.len
  have hd5 : decide ((65536 : Int) < (m : Int)) = false := decide_eq_false (by omega)
  have hnc := hs.out.nc
  have hcm := hs.out.cm
  have hn40 : n ≤ 40 := by have := hsm.out.n; have := hs.out.len; omega
  have hdk : decide ((n : Int) = 1024) = false := decide_eq_false (by omega)
  have hdl : (((n : Int)) == 1024) = false := by simp <;> omega
  go_enter Tryd.func11, Tryd.ntmps11
  go_upto_region 8 with (go_at_call 23; with_reducible refine (rcheck_is (some ⟨b, off, none⟩) n c ls 0 _ hs hsm he).mono ?_; rintro e w1 ⟨rfl, hb⟩; have B1 := Lib.hid hb; have n0 := (B1.out.cell (p := ⟨b, off, none⟩) hb').trans N0.out; clear hb)
  have O0 := Lib.hid (show OwnK (w1.alloc (.cells #[] 37)) w1.heap.size (.slice (some ⟨w1.heap.size, 0, none⟩) 0 0) [] from World.ownsRow_made w1 #[] 0 (Nat.le_refl _) (by unfold maxLen; omega) rfl)
  have L1 := Lib.hid (hs.out.below (B1.out.trans (bel_alloc1 w1 (.cells #[] 37) |>.mono B1.out.size)))
  go_upto_region 9 with (at_builtin; refine appKs rfl (.tmp 42) (.tmp 43) rfl w1.heap.size (.slice (some ⟨w1.heap.size, 0, none⟩) 0 0) [] rfl O0.out (some ⟨b, off, none⟩) n c ls rfl L1.out ?c2 ?c3 ?_)
  case c2 => simp only [List.length_nil]; omega
  case c3 => rw [World.size_alloc]; omega
  intro v5 w5 ho hg
  have B5 := Lib.hid (show Below w1.heap.size w1 w5 from bel_grownK3 (bel_alloc1 w1 _) O0.out hg (by rw [World.size_alloc]; omega))
  have O5 := Lib.hid (show OwnK w5 w1.heap.size v5 ls from ho)
  have BW5 := Lib.hid (bel_trans B1.out B5.out)
  clear hg ho O0 L1
  go_wp2_with (first
    | (go_at_call 24; with_reducible refine (rhead_is (some ⟨b, off, none⟩) n c ls _ (Lib.hid (hs.out.below BW5.out)) hsm ds hd).mono ?_; rintro e w6 ⟨rfl, hb⟩; have B6 := Lib.hid (bel_trans B5.out hb); have O6 := Lib.hid (O5.out.below hb); clear hb)
    | (refine list_build (by rfl) 37 #[(0, .tmp 46), (1, .tmp 48), (2, .tmp 50), (3, .tmp 51)] rfl [(0, .int .i64 nd), (1, .int .i64 ((n : Nat) : Int)), (2, .agg (bv ds).toArray), (3, .slice q m d)] rfl _ (built_lk ⟨nd, n, ds, q, m, d, bs⟩ hld.out) ?_)
    | (refine list_build1K (by rfl) (.tmp 52) rfl ⟨nd, n, ds, q, m, d, bs⟩ rfl hld.out ?_)
    | (refine appK rfl (.tmp 45) (.tmp 53) rfl w1.heap.size v5 ls rfl (O6.out.below (bel_alloc1 w6 _)) w6.heap.size ⟨nd, n, ds, q, m, d, bs⟩ rfl (KBlk.box w6 (x := ⟨nd, n, ds, q, m, d, bs⟩) hld.out) (by have := hsm.out.n; omega) (by have := B6.out.size; rw [World.size_alloc]; omega) ?_))
  intro v7 w7 ho hg
  have B7 := Lib.hid (show Below w1.heap.size w1 w7 from bel_grownK3 (B6.out.trans ((bel_alloc1 w6 _).mono B6.out.size)) (O6.out.below (bel_alloc1 w6 _)) hg (by have := B6.out.size; rw [World.size_alloc]; omega))
  have O7 := Lib.hid ho
  have BW := Lib.hid (bel_trans B1.out B7.out)
  clear ho hg
  go_wp2_with fail
  go_ret2
  have hn := hs.out.len
  obtain ⟨g, cap, rfl, hV, hg⟩ := O7.out.val (by simp) (fun x hx => by
    rcases List.mem_append.1 hx with h | h
    · exact (hs.out.ok x h).below BW.out
    · obtain rfl := List.mem_singleton.1 h
      exact ⟨hld.out, hd.out.tg.rng, hz.out.below BW.out, hr8.out, hmd, hdm, ⟨by show _ ≤ nd; omega, by show nd ≤ _; omega⟩, ⟨by show _ ≤ (((n : Nat)) : Int); omega, by show (((n : Nat)) : Int) ≤ _; omega⟩⟩)
  have hj2 := hj.out
  rw [List.length_append, List.length_singleton, ← hn, hj2] at hV ⊢
  exact ⟨g, cap, rfl, hV, BW.out⟩
end Go.Proofs.YtllcgehfmkmcdaaDoor
