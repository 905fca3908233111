/- Package chain: Add. -/
import Derived.Test.YtllcgehfmkmcdaaDoorChnChk
import Derived.Test.YtllcgehfmkmcdaaDoorChnOwn
namespace Go.Proofs.YtllcgehfmkmcdaaDoor
open Go.RowKit
set_option linter.unusedVariables false
set_option linter.unusedSimpArgs false

set_option maxRecDepth 100000 in
set_option maxHeartbeats 2000000 in
theorem cadd_chk (p : Option Addr) (n c : Nat) (ls : List Lk) (nd : Int) (q : Option Addr) (m d : Nat) (bs : List Int) (w : World) (hs : Hid (LksV w p n c ls)) (hsm : Hid (Small ls)) (hkey : Hid (KeysAt w)) (he : Hid (IsChk ls 80)) :
    Calls Tryd.prog 10 #[.slice p n c, .int .i64 nd, .slice q m d] w fun e w' => e = .returned (.tuple #[.slice none 0 0, .int .i64 80]) ∧ Below w.heap.size w w' := by
  have hnc := hs.out.nc
  have hcm := hs.out.cm
  have hn40 : n ≤ 40 := by have := hsm.out.n; have := hs.out.len; omega
  go_enter Tryd.func10, Tryd.ntmps10
  go_wp2_with (first
    | (go_at_call 16; refine (ccheck_is p n c ls 80 _ hs hsm hkey he).mono ?_; rintro e w1 ⟨rfl, hb⟩; have B1 := Lib.hid hb; clear hb))
  go_ret2
  exact ⟨rfl, B1.out⟩
set_option maxRecDepth 100000 in
set_option maxHeartbeats 2000000 in
theorem cadd_arg0 (p : Option Addr) (n c : Nat) (ls : List Lk) (nd : Int) (q : Option Addr) (m d : Nat) (bs : List Int) (w : World) (hs : Hid (LksV w p n c ls)) (hsm : Hid (Small ls)) (hkey : Hid (KeysAt w)) (he : Hid (IsChk ls 0)) (hv : Hid (nodeB nd = false)) :
    Calls Tryd.prog 10 #[.slice p n c, .int .i64 nd, .slice q m d] w fun e w' => e = .returned (.tuple #[.slice none 0 0, .int .i64 1]) ∧ Below w.heap.size w w' := by
  have hnc := hs.out.nc
  have hcm := hs.out.cm
  have hn40 : n ≤ 40 := by have := hsm.out.n; have := hs.out.len; omega
  go_enter Tryd.func10, Tryd.ntmps10
  go_wp2_with (first
    | (go_at_call 16; refine (ccheck_is p n c ls 0 _ hs hsm hkey he).mono ?_; rintro e w1 ⟨rfl, hb⟩; have B1 := Lib.hid hb; clear hb)
    | (go_at_call 20; refine (cvalid_is nd false _ hv).mono ?_; rintro e w' ⟨rfl, rfl⟩))
  go_ret2
  exact ⟨rfl, B1.out⟩
set_option maxRecDepth 100000 in
set_option maxHeartbeats 2000000 in
theorem cadd_arg1 (p : Option Addr) (n c : Nat) (ls : List Lk) (nd : Int) (q : Option Addr) (m d : Nat) (bs : List Int) (w : World) (hs : Hid (LksV w p n c ls)) (hsm : Hid (Small ls)) (hkey : Hid (KeysAt w)) (he : Hid (IsChk ls 0)) (hv : Hid (nodeB nd = true)) (hn0 : 0 < n) (hsn : ¬ (ls.getD 0 lk0).node = nd) :
    Calls Tryd.prog 10 #[.slice p n c, .int .i64 nd, .slice q m d] w fun e w' => e = .returned (.tuple #[.slice none 0 0, .int .i64 1]) ∧ Below w.heap.size w w' := by
  obtain ⟨b, off, hp, hb', hr, hl⟩ := hs.out.at hn0
  rw [show off + 0 * 35 = off by omega] at hr
  obtain ⟨y, hy⟩ : ∃ y, ls.getD 0 lk0 = y := ⟨_, rfl⟩
  rw [hy] at hr hl hsn
  have N0 := Lib.hid (lk_cells hr hl.len).1
  subst hp
  clear hr hl hy
  have hd1 : decide (y.node = nd) = false := decide_eq_false hsn
  have hnc := hs.out.nc
  have hcm := hs.out.cm
  have hn40 : n ≤ 40 := by have := hsm.out.n; have := hs.out.len; omega
  go_enter Tryd.func10, Tryd.ntmps10
  go_wp2_with (first
    | (go_at_call 16; refine (ccheck_is (some ⟨b, off, none⟩) n c ls 0 _ hs hsm hkey he).mono ?_; rintro e w1 ⟨rfl, hb⟩; have B1 := Lib.hid hb; clear hb; have n0 := (B1.out.cell (p := ⟨b, off, none⟩) hb').trans N0.out)
    | (go_at_call 20; refine (cvalid_is nd true _ hv).mono ?_; rintro e w' ⟨rfl, rfl⟩))
  go_ret2
  exact ⟨rfl, B1.out⟩
set_option maxRecDepth 100000 in
set_option maxHeartbeats 2000000 in
theorem cadd_big0 (p : Option Addr) (n c : Nat) (ls : List Lk) (nd : Int) (q : Option Addr) (m d : Nat) (bs : List Int) (w : World) (hs : Hid (LksV w p n c ls)) (hsm : Hid (Small ls)) (hkey : Hid (KeysAt w)) (he : Hid (IsChk ls 0)) (hv : Hid (nodeB nd = true)) (hn0 : n = 0) (hm : (65536 : Int) < m) :
    Calls Tryd.prog 10 #[.slice p n c, .int .i64 nd, .slice q m d] w fun e w' => e = .returned (.tuple #[.slice none 0 0, .int .i64 1]) ∧ Below w.heap.size w w' := by
  subst hn0
  have hnc := hs.out.nc
  have hcm := hs.out.cm
  have hn40 : 0 ≤ 40 := by have := hsm.out.n; have := hs.out.len; omega
  go_enter Tryd.func10, Tryd.ntmps10
  go_wp2_with (first
    | (go_at_call 16; refine (ccheck_is p 0 c ls 0 _ hs hsm hkey he).mono ?_; rintro e w1 ⟨rfl, hb⟩; have B1 := Lib.hid hb; clear hb)
    | (go_at_call 20; refine (cvalid_is nd true _ hv).mono ?_; rintro e w' ⟨rfl, rfl⟩))
  go_ret2
  exact ⟨rfl, B1.out⟩
set_option maxRecDepth 100000 in
set_option maxHeartbeats 2000000 in
theorem cadd_big1 (p : Option Addr) (n c : Nat) (ls : List Lk) (nd : Int) (q : Option Addr) (m d : Nat) (bs : List Int) (w : World) (hs : Hid (LksV w p n c ls)) (hsm : Hid (Small ls)) (hkey : Hid (KeysAt w)) (he : Hid (IsChk ls 0)) (hv : Hid (nodeB nd = true)) (hn0 : 0 < n) (hsn : (ls.getD 0 lk0).node = nd) (hm : (65536 : Int) < m) :
    Calls Tryd.prog 10 #[.slice p n c, .int .i64 nd, .slice q m d] w fun e w' => e = .returned (.tuple #[.slice none 0 0, .int .i64 1]) ∧ Below w.heap.size w w' := by
  obtain ⟨b, off, hp, hb', hr, hl⟩ := hs.out.at hn0
  rw [show off + 0 * 35 = off by omega] at hr
  obtain ⟨y, hy⟩ : ∃ y, ls.getD 0 lk0 = y := ⟨_, rfl⟩
  rw [hy] at hr hl hsn
  have N0 := Lib.hid (lk_cells hr hl.len).1
  subst hp
  rw [hsn] at N0
  clear hr hl hy
  have hnc := hs.out.nc
  have hcm := hs.out.cm
  have hn40 : n ≤ 40 := by have := hsm.out.n; have := hs.out.len; omega
  go_enter Tryd.func10, Tryd.ntmps10
  go_wp2_with (first
    | (go_at_call 16; refine (ccheck_is (some ⟨b, off, none⟩) n c ls 0 _ hs hsm hkey he).mono ?_; rintro e w1 ⟨rfl, hb⟩; have B1 := Lib.hid hb; clear hb; have n0 := (B1.out.cell (p := ⟨b, off, none⟩) hb').trans N0.out)
    | (go_at_call 20; refine (cvalid_is nd true _ hv).mono ?_; rintro e w' ⟨rfl, rfl⟩))
  go_ret2
  exact ⟨rfl, B1.out⟩
theorem LksV.clip {w : World} {p : Option Addr} {n c : Nat} {ls : List Lk} (h : LksV w p n c ls) : LksV w p n n ls := ⟨h.len, Nat.le_refl _, by have := h.nc; have := h.cm; omega, fun e => ⟨(h.nn e).1, (h.nn e).1⟩, h.ok, h.row⟩
set_option maxRecDepth 100000 in
set_option maxHeartbeats 4000000 in
theorem cadd_ok0 (p : Option Addr) (n c : Nat) (ls : List Lk) (nd : Int) (q : Option Addr) (m d : Nat) (bs : List Int) (w : World) (hs : Hid (LksV w p n c ls)) (hsm : Hid (Small ls)) (hkey : Hid (KeysAt w)) (he : Hid (IsChk ls 0)) (hv : Hid (nodeB nd = true)) (hn0 : n = 0) (hz : Hid (SrcW w q m d bs)) (hr8 : Hid (∀ z ∈ bs, 0 ≤ z ∧ z ≤ 255)) (hm : m ≤ 65536) (ds : List Int) (hd : Hid (IsHead ls ds)) :
    Calls Tryd.prog 10 #[.slice p n c, .int .i64 nd, .slice q m d] w fun e w' => ∃ g cap q2 c2, e = .returned (.tuple #[.slice (some ⟨g, 0, none⟩) 1 cap, .int .i64 0]) ∧ LksV w' (some ⟨g, 0, none⟩) 1 cap (ls ++ [⟨nd, 0, ds, q2, m, c2, bs⟩]) ∧ w.heap.size ≤ g ∧ Below w.heap.size w w' := by
  subst hn0
  have hld := Lib.hid hd.out.tg.len
  have hmb := Lib.hid (srcW_len hz.out)
  have hmi : ¬ ((m : Int) > 65536) := by omega
  have hnc := hs.out.nc
  have hnn := hs.out.nn
  have hcm := hs.out.cm
  have hn40 : 0 ≤ 40 := by have := hsm.out.n; have := hs.out.len; omega
  go_enter Tryd.func10, Tryd.ntmps10
  go_upto_region 8 with (first
    | (go_at_call 16; refine (ccheck_is p 0 c ls 0 _ hs hsm hkey he).mono ?_; rintro e w1 ⟨rfl, hb⟩; have B1 := Lib.hid hb; clear hb)
    | (go_at_call 20; refine (cvalid_is nd true _ hv).mono ?_; rintro e w' ⟨rfl, rfl⟩))
  go_wp2_with (first
    | (go_at_call 21; refine (cclip_any p 0 c _ hs.out.nc hs.out.cm hs.out.nn).mono ?_; rintro e w' ⟨rfl, rfl⟩)
    | (go_at_call 15; refine (chead_is p 0 c ls _ (Lib.hid (hs.out.below B1.out)) (Lib.hid (hkey.out.below B1.out)) hsm ds hd).mono ?_; rintro e w2 ⟨rfl, hb⟩; have B2 := Lib.hid (bel_trans B1.out hb); clear hb)
    | (go_at_call 22; refine (clone_any q m d bs _ (Lib.hid (hz.out.below B2.out)) (by omega)).mono ?_; rintro e w3 ⟨⟨q2, c2, rfl, hq1, hq2, hq3, hq4⟩, hb⟩; rw [← hmb.out] at hq1 hq3 ⊢; have Q3 := Lib.hid hq1; have Q4 := Lib.hid hq3; have Q5 := Lib.hid hq4; have B3 := Lib.hid (bel_trans B2.out hb); clear hb hq1 hq2 hq3 hq4)
    | (refine list_build (by rfl) 37 #[(0, .tmp 41), (1, .tmp 43), (2, .tmp 45), (3, .tmp 47)] rfl [(0, .int .i64 nd), (1, .int .i64 0), (2, .agg (bv ds).toArray), (3, .slice q2 m c2)] rfl _ (built_lk ⟨nd, 0, ds, q2, m, c2, bs⟩ hld.out) ?_)
    | (refine list_build1K (by rfl) (.tmp 48) rfl ⟨nd, 0, ds, q2, m, c2, bs⟩ rfl hld.out ?_)
    | (refine appKF rfl (.tmp 40) (.tmp 49) rfl p 0 ls rfl ((hs.out.clip.below B3.out).below (bel_alloc1 w3 _)) w3.heap.size ⟨nd, 0, ds, q2, m, c2, bs⟩ rfl (KBlk.box w3 (x := ⟨nd, 0, ds, q2, m, c2, bs⟩) hld.out) (by omega) ?_))
  intro v4 w4 ho hb4
  have B4 := Lib.hid (B3.out.trans ((bel_alloc1 w3 _).trans (hb4.mono (by simp)) |>.mono B3.out.size))
  have O4 := Lib.hid ho
  have hbq := Lib.hid (show Below w3.heap.size w3 w4 from (bel_alloc1 w3 _).trans (hb4.mono (by simp)))
  clear ho hb4
  go_wp2_with fail
  go_ret2
  have hn := hs.out.len
  obtain ⟨g, cap, rfl, hV, hg⟩ := O4.out.val (by simp) (fun x hx => by
    rcases List.mem_append.1 hx with h | h
    · exact (hs.out.ok x h).below B4.out
    · obtain rfl := List.mem_singleton.1 h
      have hv2 := hv.out
      unfold nodeB at hv2
      simp at hv2
      exact ⟨hld.out, hd.out.tg.rng, Q3.out.below hbq.out, hr8.out, Q4.out, Q5.out, ⟨by show _ ≤ nd; omega, by show nd ≤ _; omega⟩, ⟨by show _ ≤ (((0 : Nat)) : Int); omega, by show (((0 : Nat)) : Int) ≤ _; omega⟩⟩)
  rw [List.length_append, List.length_singleton, ← hn] at hV ⊢
  exact ⟨g, cap, q2, c2, rfl, hV, Nat.le_trans (Nat.le_trans B3.out.size (by simp)) hg, B4.out⟩
set_option maxRecDepth 100000 in
set_option maxHeartbeats 4000000 in
theorem cadd_ok1 (p : Option Addr) (n c : Nat) (ls : List Lk) (nd : Int) (q : Option Addr) (m d : Nat) (bs : List Int) (w : World) (hs : Hid (LksV w p n c ls)) (hsm : Hid (Small ls)) (hkey : Hid (KeysAt w)) (he : Hid (IsChk ls 0)) (hv : Hid (nodeB nd = true)) (hn0 : 0 < n) (hsn : (ls.getD 0 lk0).node = nd) (hz : Hid (SrcW w q m d bs)) (hr8 : Hid (∀ z ∈ bs, 0 ≤ z ∧ z ≤ 255)) (hm : m ≤ 65536) (ds : List Int) (hd : Hid (IsHead ls ds)) :
    Calls Tryd.prog 10 #[.slice p n c, .int .i64 nd, .slice q m d] w fun e w' => ∃ g cap q2 c2, e = .returned (.tuple #[.slice (some ⟨g, 0, none⟩) (n + 1 : Nat) cap, .int .i64 0]) ∧ LksV w' (some ⟨g, 0, none⟩) (n + 1) cap (ls ++ [⟨nd, n, ds, q2, m, c2, bs⟩]) ∧ w.heap.size ≤ g ∧ Below w.heap.size w w' := by
  obtain ⟨b, off, hp, hb', hr, hl⟩ := hs.out.at hn0
  rw [show off + 0 * 35 = off by omega] at hr
  obtain ⟨y, hy⟩ : ∃ y, ls.getD 0 lk0 = y := ⟨_, rfl⟩
  rw [hy] at hr hl hsn
  have N0 := Lib.hid (lk_cells hr hl.len).1
  subst hp
  rw [hsn] at N0
  clear hr hl hy
  have hld := Lib.hid hd.out.tg.len
  have hmb := Lib.hid (srcW_len hz.out)
  have hmi : ¬ ((m : Int) > 65536) := by omega
  have hnc := hs.out.nc
  have hnn := hs.out.nn
  have hcm := hs.out.cm
  have hn40 : n ≤ 40 := by have := hsm.out.n; have := hs.out.len; omega
  go_enter Tryd.func10, Tryd.ntmps10
  go_upto_region 8 with (first
    | (go_at_call 16; refine (ccheck_is (some ⟨b, off, none⟩) n c ls 0 _ hs hsm hkey he).mono ?_; rintro e w1 ⟨rfl, hb⟩; have B1 := Lib.hid hb; clear hb; have n0 := (B1.out.cell (p := ⟨b, off, none⟩) hb').trans N0.out)
    | (go_at_call 20; refine (cvalid_is nd true _ hv).mono ?_; rintro e w' ⟨rfl, rfl⟩))
  go_wp2_with (first
    | (go_at_call 21; refine (cclip_any (some ⟨b, off, none⟩) n c _ hs.out.nc hs.out.cm hs.out.nn).mono ?_; rintro e w' ⟨rfl, rfl⟩)
    | (go_at_call 15; refine (chead_is (some ⟨b, off, none⟩) n c ls _ (Lib.hid (hs.out.below B1.out)) (Lib.hid (hkey.out.below B1.out)) hsm ds hd).mono ?_; rintro e w2 ⟨rfl, hb⟩; have B2 := Lib.hid (bel_trans B1.out hb); clear hb)
    | (go_at_call 22; refine (clone_any q m d bs _ (Lib.hid (hz.out.below B2.out)) (by omega)).mono ?_; rintro e w3 ⟨⟨q2, c2, rfl, hq1, hq2, hq3, hq4⟩, hb⟩; rw [← hmb.out] at hq1 hq3 ⊢; have Q3 := Lib.hid hq1; have Q4 := Lib.hid hq3; have Q5 := Lib.hid hq4; have B3 := Lib.hid (bel_trans B2.out hb); clear hb hq1 hq2 hq3 hq4)
    | (refine list_build (by rfl) 37 #[(0, .tmp 41), (1, .tmp 43), (2, .tmp 45), (3, .tmp 47)] rfl [(0, .int .i64 nd), (1, .int .i64 ((n : Nat) : Int)), (2, .agg (bv ds).toArray), (3, .slice q2 m c2)] rfl _ (built_lk ⟨nd, n, ds, q2, m, c2, bs⟩ hld.out) ?_)
    | (refine list_build1K (by rfl) (.tmp 48) rfl ⟨nd, n, ds, q2, m, c2, bs⟩ rfl hld.out ?_)
    | (refine appKF rfl (.tmp 40) (.tmp 49) rfl (some ⟨b, off, none⟩) n ls rfl ((hs.out.clip.below B3.out).below (bel_alloc1 w3 _)) w3.heap.size ⟨nd, n, ds, q2, m, c2, bs⟩ rfl (KBlk.box w3 (x := ⟨nd, n, ds, q2, m, c2, bs⟩) hld.out) (by omega) ?_))
  intro v4 w4 ho hb4
  have B4 := Lib.hid (B3.out.trans ((bel_alloc1 w3 _).trans (hb4.mono (by simp)) |>.mono B3.out.size))
  have O4 := Lib.hid ho
  have hbq := Lib.hid (show Below w3.heap.size w3 w4 from (bel_alloc1 w3 _).trans (hb4.mono (by simp)))
  clear ho hb4
  go_wp2_with fail
  go_ret2
  have hn := hs.out.len
  obtain ⟨g, cap, rfl, hV, hg⟩ := O4.out.val (by simp) (fun x hx => by
    rcases List.mem_append.1 hx with h | h
    · exact (hs.out.ok x h).below B4.out
    · obtain rfl := List.mem_singleton.1 h
      have hv2 := hv.out
      unfold nodeB at hv2
      simp at hv2
      exact ⟨hld.out, hd.out.tg.rng, Q3.out.below hbq.out, hr8.out, Q4.out, Q5.out, ⟨by show _ ≤ nd; omega, by show nd ≤ _; omega⟩, ⟨by show _ ≤ (((n : Nat)) : Int); omega, by show (((n : Nat)) : Int) ≤ _; omega⟩⟩)
  rw [List.length_append, List.length_singleton, ← hn] at hV ⊢
  exact ⟨g, cap, q2, c2, rfl, hV, Nat.le_trans (Nat.le_trans B3.out.size (by simp)) hg, B4.out⟩
end Go.Proofs.YtllcgehfmkmcdaaDoor
