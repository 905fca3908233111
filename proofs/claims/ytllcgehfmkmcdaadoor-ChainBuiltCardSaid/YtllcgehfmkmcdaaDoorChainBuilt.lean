/- What is added one after the other is a chain. No condition. -/
import Derived.Test.YtllcgehfmkmcdaaDoorChainEqual
import Derived.Test.YtllcgehfmkmcdaaDoorSecArg
namespace Go.Proofs.YtllcgehfmkmcdaaDoor
open Go.ChangeShapes Go.WideShapes Go.ChangeAt Go.RowKit Go.WideElems Go.Shelf
set_option linter.unusedVariables false
set_option linter.unusedSimpArgs false

theorem getD_app {ls : List Lk} {y : Lk} {i : Nat} (h : i < ls.length) : (ls ++ [y]).getD i lk0 = ls.getD i lk0 := by
  rw [List.getD_eq_getElem?_getD, List.getD_eq_getElem?_getD, List.getElem?_append_left h]
theorem linB_app {ls : List Lk} {y : Lk} {i : Nat} (h : i < ls.length) : linB (ls ++ [y]) i = linB ls i := by
  have h0 : 0 < ls.length := by omega
  have e1 : (ls ++ [y]).getD i lk0 = ls.getD i lk0 := getD_app h
  have e2 : (ls ++ [y]).getD 0 lk0 = ls.getD 0 lk0 := getD_app h0
  have e3 : (ls ++ [y]).take i = ls.take i := List.take_append_of_le_length (by omega)
  unfold linB fldB prvB
  rw [e1, e2, e3]
theorem linB_tk {ls : List Lk} {i j : Nat} (h : i < j) : linB (ls.take j) i = linB ls i := by
  have e1 : (ls.take j).getD i lk0 = ls.getD i lk0 := by simp [List.getD, List.getElem?_take, h]
  have e2 : (ls.take j).getD 0 lk0 = ls.getD 0 lk0 := by simp [List.getD, List.getElem?_take, show 0 < j by omega]
  have e3 : (ls.take j).take i = ls.take i := by rw [List.take_take, Nat.min_eq_left (by omega)]
  unfold linB fldB prvB
  rw [e1, e2, e3]
/-- a chain of the node nd with little data -/
structure Ch (nd : Int) (ls : List Lk) : Prop where
  chk : AllB (linB ls) ls.length
  hd : 0 < ls.length → (ls.getD 0 lk0).node = nd
  few : ∀ x ∈ ls, x.bs.length ≤ 300
theorem ch_nil (nd : Int) : Ch nd [] := ⟨fun i hi => absurd hi (by simp), fun h => by simp at h, by simp⟩
theorem Ch.is {nd : Int} {ls : List Lk} (h : Ch nd ls) : IsChk ls 0 := .inl ⟨h.chk, rfl⟩
theorem Ch.small {nd : Int} {ls : List Lk} (h : Ch nd ls) (k : ls.length ≤ 40) : Small ls := ⟨k, fun x hx => by have := h.few x hx; omega⟩
theorem Ch.isTake {nd : Int} {ls : List Lk} (h : Ch nd ls) (j : Nat) : IsChk (ls.take j) 0 := .inl ⟨fun i hi => by
  rw [List.length_take] at hi
  rw [linB_tk (by omega)]; exact h.chk i (by omega), rfl⟩
theorem Ch.snoc {nd : Int} {ls : List Lk} (h : Ch nd ls) (h0 : 0 ≤ nd) (h1 : nd < 24) {ds : List Int} (hd : IsHead ls ds) {q : Option Addr} {m c : Nat} {bs : List Int} (hb : bs.length ≤ 300) {k : Nat} (hk : ls.length = k) : Ch nd (ls ++ [⟨nd, k, ds, q, m, c, bs⟩]) := by
  obtain ⟨y, hy⟩ : ∃ y : Lk, (⟨nd, k, ds, q, m, c, bs⟩ : Lk) = y := ⟨_, rfl⟩
  have y1 : y.node = nd := by rw [← hy]
  have y2 : y.no = (k : Int) := by rw [← hy]
  have y3 : y.prev = ds := by rw [← hy]
  have y4 : y.bs = bs := by rw [← hy]
  rw [hy]
  have ek : (ls ++ [y]).getD k lk0 = y := by simp [List.getD, ← hk]
  have e0 : ((ls ++ [y]).getD 0 lk0).node = nd := by
    rcases Nat.eq_zero_or_pos k with e | e
    · rw [e] at ek; rw [ek]; exact y1
    · rw [getD_app (show 0 < ls.length by omega)]
      exact h.hd (by omega)
  refine ⟨fun i hi => ?_, fun _ => e0, fun x hx => ?_⟩
  · rw [List.length_append, List.length_singleton] at hi
    rcases Nat.lt_or_ge i ls.length with h2 | h2
    · rw [linB_app h2]; exact h.chk i h2
    · obtain rfl : i = k := by omega
      have e3 : (ls ++ [y]).take i = ls := by rw [← hk]; simp
      unfold linB fldB prvB
      rw [ek, e0, e3, y1, y2, y3, y4, hd.of]
      simp [h0, h1]; omega
  · rcases List.mem_append.1 hx with h2 | h2
    · exact h.few x h2
    · rw [List.mem_singleton.1 h2, y4]; exact hb
theorem isSm_refl (ls : List Lk) : IsSm ls ls true := ⟨fun _ => rfl, fun k hk hf => by
  rw [show samB (ls.getD k lk0) (ls.getD k lk0) = true from samB_iff.2 ⟨rfl, rfl, rfl, rfl⟩] at hf; cases hf⟩
theorem cadd_step (p : Option Addr) (n c j : Nat) (ls : List Lk) (nd : Int) (q : Option Addr) (m d : Nat) (bs : List Int) (w : World) (hs : Hid (LksV w p n c ls)) (hsm : Hid (Small ls)) (hkey : Hid (KeysAt w)) (hC : Hid (Ch nd ls)) (hv : Hid (nodeB nd = true)) (hz : Hid (SrcW w q m d bs)) (hr8 : Hid (∀ z ∈ bs, 0 ≤ z ∧ z ≤ 255)) (hm : m ≤ 65536) (hj : n + 1 = j) (ds : List Int) (hd : Hid (IsHead ls ds)) :
    Calls Tryd.prog 10 #[.slice p n c, .int .i64 nd, .slice q m d] w fun e w' => ∃ g cap q2 c2, e = .returned (.tuple #[.slice (some ⟨g, 0, none⟩) j cap, .int .i64 0]) ∧ LksV w' (some ⟨g, 0, none⟩) j cap (ls ++ [⟨nd, n, ds, q2, m, c2, bs⟩]) ∧ Below w.heap.size w w' := by
  subst hj
  have hl := hs.out.len
  by_cases h0 : n = 0
  · refine (cadd_ok0 p n c ls nd q m d bs w hs hsm hkey (Lib.hid hC.out.is) hv h0 hz hr8 hm ds hd).mono ?_
    rintro e w' ⟨g, cap, q2, c2, rfl, h1, h2, h3⟩
    subst h0
    exact ⟨g, cap, q2, c2, rfl, h1, h3⟩
  · refine (cadd_ok1 p n c ls nd q m d bs w hs hsm hkey (Lib.hid hC.out.is) hv (by omega) (hC.out.hd (by omega)) hz hr8 hm ds hd).mono ?_
    rintro e w' ⟨g, cap, q2, c2, rfl, h1, h2, h3⟩
    exact ⟨g, cap, q2, c2, rfl, h1, h3⟩
set_option maxRecDepth 100000 in
set_option maxHeartbeats 8000000 in
theorem built_big (nd : Int) (p0 : Option Addr) (n c0 : Nat) (rs : List Rw) (w : World) (hs : Hid (SecsV w p0 n rs)) (hnc : n ≤ c0) (hcm : c0 ≤ 9223372036854775807) (hkey : Hid (KeysAt w)) (h12 : 12 < n) :
    Calls Tryd.prog 4 #[.int .i64 nd, .slice p0 n c0] w fun r w' => r = .returned (.bool true) ∧ Below w.heap.size w w' := by
  have hd1 : decide ((12 : Int) < (n : Int)) = true := decide_eq_true (by omega)
  go_enter Tryd.func4, Tryd.ntmps4
  go_wp2_with (go_at_call 8; with_reducible refine (sane08_any w hkey).mono ?_; rintro r w1 ⟨rfl, hb⟩; have B1 := Lib.hid hb; clear hb)
  go_ret
  exact ⟨rfl, B1.out⟩
set_option maxRecDepth 100000 in
set_option maxHeartbeats 8000000 in
theorem built_neg (nd : Int) (p0 : Option Addr) (n c0 : Nat) (rs : List Rw) (w : World) (hs : Hid (SecsV w p0 n rs)) (hnc : n ≤ c0) (hcm : c0 ≤ 9223372036854775807) (hkey : Hid (KeysAt w)) (h12 : n ≤ 12) (h0 : nd < 0) :
    Calls Tryd.prog 4 #[.int .i64 nd, .slice p0 n c0] w fun r w' => r = .returned (.bool true) ∧ Below w.heap.size w w' := by
  have hd1 : decide ((12 : Int) < (n : Int)) = false := decide_eq_false (by omega)
  have hd2 : decide (nd < 0) = true := decide_eq_true h0
  go_enter Tryd.func4, Tryd.ntmps4
  go_wp2_with (go_at_call 8; with_reducible refine (sane08_any w hkey).mono ?_; rintro r w1 ⟨rfl, hb⟩; have B1 := Lib.hid hb; clear hb)
  go_ret
  exact ⟨rfl, B1.out⟩
set_option maxRecDepth 100000 in
set_option maxHeartbeats 8000000 in
theorem built_max (nd : Int) (p0 : Option Addr) (n c0 : Nat) (rs : List Rw) (w : World) (hs : Hid (SecsV w p0 n rs)) (hnc : n ≤ c0) (hcm : c0 ≤ 9223372036854775807) (hkey : Hid (KeysAt w)) (h12 : n ≤ 12) (h0 : 0 ≤ nd) (h1 : 24 ≤ nd) :
    Calls Tryd.prog 4 #[.int .i64 nd, .slice p0 n c0] w fun r w' => r = .returned (.bool true) ∧ Below w.heap.size w w' := by
  have hd1 : decide ((12 : Int) < (n : Int)) = false := decide_eq_false (by omega)
  have hd2 : decide (nd < 0) = false := decide_eq_false (by omega)
  have hd3 : decide (24 ≤ nd) = true := decide_eq_true h1
  go_enter Tryd.func4, Tryd.ntmps4
  go_wp2_with (go_at_call 8; with_reducible refine (sane08_any w hkey).mono ?_; rintro r w1 ⟨rfl, hb⟩; have B1 := Lib.hid hb; clear hb)
  go_ret
  exact ⟨rfl, B1.out⟩
set_option maxRecDepth 100000 in
set_option maxHeartbeats 8000000 in
theorem built_main (nd : Int) (p0 : Option Addr) (n c0 : Nat) (rs : List Rw) (w : World) (hs : Hid (SecsV w p0 n rs)) (hnc : n ≤ c0) (hcm : c0 ≤ 9223372036854775807) (hkey : Hid (KeysAt w)) (h12 : n ≤ 12) (hlo : 0 ≤ nd) (hhi : nd < 24) :
    Calls Tryd.prog 4 #[.int .i64 nd, .slice p0 n c0] w fun r w' => r = .returned (.bool true) ∧ Below w.heap.size w w' := by
  have hd1 : decide ((12 : Int) < (n : Int)) = false := decide_eq_false (by omega)
  have hd2 : decide (nd < 0) = false := decide_eq_false (by omega)
  have hd3 : decide (24 ≤ nd) = false := decide_eq_false (by omega)
  go_enter Tryd.func4, Tryd.ntmps4
  go_wp2_with (go_at_call 8; with_reducible refine (sane08_any w hkey).mono ?_; rintro r w1 ⟨rfl, hb⟩; have B1 := Lib.hid hb; clear hb)
  go_loopw [5, 6] (fun x i wr => ∃ (k : Nat) (p : Option Addr) (c : Nat) (ls : List Lk), k ≤ n ∧ x = .slice p k c ∧ i = .int .i64 (k : Int) ∧ Hid (LksV wr p k c ls) ∧ Hid (Ch nd ls) ∧ Hid (Below w.heap.size w wr)) (fun x i _ => n - (intOf i).toNat)
  case atStart => exact ⟨0, none, 0, [], by omega, rfl, by simp, Lib.hid (lksNil _), Lib.hid (ch_nil nd), B1⟩
  case round =>
    clear B1
    obtain ⟨k, p, c, ls, hk, rfl, rfl, HL, HC, HB⟩ := hrel
    by_cases hlt : k < n
    · have hb0 := HB.out
      obtain ⟨b, off, hp, hb, hcell, hro⟩ := (hs.out.below hb0).at hlt
      obtain ⟨r, hr0⟩ : ∃ r, rs.getD k rw0 = r := ⟨_, rfl⟩
      rw [hr0] at hcell hro
      subst hp
      have HSR := Lib.hid (show SrcW wr r.p r.m r.c r.bs from hro.1)
      have HRR := Lib.hid (show ∀ z ∈ r.bs, 0 ≤ z ∧ z ≤ 255 from hro.2.1)
      have HCL := Lib.hid hcell
      have hmc : r.m ≤ r.c := hro.2.2.2.1
      have hcc : r.c ≤ 9223372036854775807 := hro.2.2.2.2
      clear hro hr0 hb0
      have hcell : wr.cell? ⟨b, off + k, none⟩ = some (.slice r.p r.m r.c) := HCL.out
      by_cases h3 : 300 < r.m
      · have hd4 : decide ((300 : Int) < (r.m : Int)) = true := decide_eq_true (by omega)
        go_wp2_with fail
        go_ret
        exact ⟨rfl, HB.out⟩
      have hd4 : decide ((300 : Int) < (r.m : Int)) = false := decide_eq_false (by omega)
      have hm : r.m ≤ 65536 := by omega
      obtain ⟨ds, hds⟩ := isHead ls
      have HD := Lib.hid hds
      have hld := Lib.hid hds.tg.len
      have hkl := Lib.hid HL.out.len
      have hkc := HL.out.nc
      have hccm := HL.out.cm
      have hsm := Lib.hid (HC.out.small (by have := hkl.out; omega))
      have hv := Lib.hid (show nodeB nd = true by unfold nodeB; simp; omega)
      obtain ⟨j, hj⟩ : ∃ j, k + 1 = j := ⟨_, rfl⟩
      have HJ := Lib.hid hj
      have hwj : IntKind.i64.wrap ((k : Int) + 1) = (j : Int) := by rw [IntKind.wrap_i64]; omega
      have hkj : k < j := by omega
      have hjn : j ≤ n := by omega
      clear hds hj
      go_upto_region 12 with (go_at_call 10; with_reducible refine (cadd_step p k c j ls nd r.p r.m r.c r.bs _ HL hsm (Lib.hid (hkey.out.below HB.out)) HC hv HSR HRR hm HJ.out ds HD).mono ?_; rintro e w2 ⟨g, cap, q2, c2, rfl, hV, hb2⟩; have LV0 := Lib.hid hV; have BA0 := Lib.hid hb2; have hjc := hV.nc; have hjm := hV.cm; clear hV hb2)
      have hb2 := BA0.out
      have hkcap : k ≤ cap := by omega
      have BA := Lib.hid (bel_trans HB.out hb2)
      have LX0 := Lib.hid (HL.out.below hb2)
      have CT0 := Lib.hid (HSR.out.below hb2)
      have CR0 := Lib.hid (show w2.cell? ⟨b, off + k, none⟩ = some (.slice r.p r.m r.c) from (hb2.cell (p := ⟨b, off + k, none⟩) hb).trans HCL.out)
      have hbw : b < w2.heap.size := Nat.lt_of_lt_of_le hb hb2.size
      clear hb2 BA0 hcell
      refine wp_region_any (by kernel_rfl) ?_
      change wpAny _ _ _ _ _ _ _ (World.drew _)
      generalize hWD : World.drew _ = V
      have BX := Lib.hid (show Below w.heap.size w V by rw [← hWD]; exact BA.out.drew)
      have LX := Lib.hid (show LksV V p k c ls by rw [← hWD]; exact LX0.out.below (Below.refl _ _).drew)
      have LV := Lib.hid (show LksV V (some ⟨g, 0, none⟩) j cap (ls ++ [⟨nd, k, ds, q2, r.m, c2, r.bs⟩]) by rw [← hWD]; exact LV0.out.below (Below.refl _ _).drew)
      have CT := Lib.hid (show SrcW V r.p r.m r.c r.bs by rw [← hWD]; exact CT0.out.below (Below.refl _ _).drew)
      have CR := Lib.hid (show V.cell? ⟨b, off + k, none⟩ = some (.slice r.p r.m r.c) by rw [← hWD]; exact CR0.out)
      have hbV : b < V.heap.size := by rw [← hWD]; exact hbw
      clear hWD LX0 LV0 CT0 CR0 BA hbw
      have LT := Lib.hid (show LksV V (some ⟨g, 0, none⟩) k cap ls by
        have h := LV.out.take (i := k) (by omega)
        rwa [show (ls ++ [(⟨nd, k, ds, q2, r.m, c2, r.bs⟩ : Lk)]).take k = ls by rw [hkl.out]; simp] at h)
      obtain ⟨g2, o2, e2, hgV, hrg, hok⟩ := LV.out.at (i := k) hkj
      obtain ⟨rfl, rfl⟩ : g = g2 ∧ 0 = o2 := by simpa using e2
      rw [show (ls ++ [(⟨nd, k, ds, q2, r.m, c2, r.bs⟩ : Lk)]).getD k lk0 = ⟨nd, k, ds, q2, r.m, c2, r.bs⟩ by rw [hkl.out]; simp [List.getD]] at hrg hok
      rw [Nat.zero_add] at hrg
      have cs := lk_cells hrg hok.len
      have CM := Lib.hid (show V.cell? ⟨g, k * 35, none⟩ = some (.int .i64 nd) from cs.1)
      have CN := Lib.hid (show V.cell? ⟨g, k * 35 + 1, none⟩ = some (.int .i64 (k : Int)) from cs.2.1)
      have CP := Lib.hid (show BytesAt V g (k * 35 + 2) ds from cs.2.2.1)
      have CD := Lib.hid (show V.cell? ⟨g, k * 35 + 34, none⟩ = some (.slice q2 r.m c2) from cs.2.2.2)
      have CS := Lib.hid (show SrcW V q2 r.m c2 r.bs from hok.src)
      clear cs hrg hok e2
      have SM := Lib.hid (isSm_refl ls)
      obtain ⟨s, hss⟩ : ∃ s, strB r.bs = s := ⟨_, rfl⟩
      have HS := Lib.hid hss
      clear hss
      have EQ : ∀ u, (Op.equalIn 10000 35 (.agg (bv ds).toArray) (.agg (bv ds).toArray)).run Tryd.prog u = .ok true u := fun u => by rw [eqDig_any ds ds hld.out hld.out u, decide_eq_true rfl]
      have hCD : ∀ u, Ext V u → Ext V u := fun u hu => hu
      refine region_U (D := Ext V) (Ext V) [58] (Ext.refl V) ?_
      refine anyU_takeP (i := 0) (j := 58) (v := .int .i64 0) 45 [45, 36, 27, 26, 17, 16, 9, 2, 1] rfl rfl (by kernel_rfl) (by kernel_rfl) (by kernel_rfl) (fun _ _ _ h => h) (by kernel_rfl) (Ext.stable _) hCD (yieldsU_val rfl (fun u hu => by go_simp)) ?_
      refine anyU_takeP (i := 1) (j := 58) (v := .bool false) 46 [45, 36, 27, 26, 17, 16, 9, 2] rfl rfl (by kernel_rfl) (by kernel_rfl) (by kernel_rfl) (fun _ _ _ h => h) (by kernel_rfl) (Ext.stable _) hCD (yieldsU_val rfl (fun u hu => by go_simp)) ?_
      refine anyU_takeP (i := 2) (j := 58) (v := .bool false) 47 [45, 36, 27, 26, 17, 16, 9] rfl rfl (by kernel_rfl) (by kernel_rfl) (by kernel_rfl) (fun _ _ _ h => h) (by kernel_rfl) (Ext.stable _) hCD (yieldsU_val rfl (fun u hu => by go_simp)) ?_
      simp only [Act.put, List.setIfInBounds_toArray, List.set_cons_succ, List.set_cons_zero]
      refine anyU_takeP (i := 3) (j := 58) (v := .slice (some ⟨g, 0, none⟩) j cap) 48 [45, 36, 27, 26, 17, 16, 9, 8, 7, 4] rfl rfl (by kernel_rfl) (by kernel_rfl) (by kernel_rfl) (fun _ _ _ h => h) (by kernel_rfl) (Ext.stable _) hCD (yieldsU_val rfl (fun u hu => by go_simp)) ?_
      refine anyU_takeP (i := 4) (j := 58) (v := .int .i64 (j : Int)) 49 [45, 36, 27, 26, 17, 16, 9, 8, 7] rfl rfl (by kernel_rfl) (by kernel_rfl) (by kernel_rfl) (fun _ _ _ h => h) (by kernel_rfl) (Ext.stable _) hCD (yieldsU_val rfl (fun u hu => by go_simp)) ?_
      refine anyU_takeP (i := 5) (j := 58) (v := .int .i64 (k : Int)) 50 [45, 36, 27, 26, 17, 16, 9, 8, 7, 6] rfl rfl (by kernel_rfl) (by kernel_rfl) (by kernel_rfl) (fun _ _ _ h => h) (by kernel_rfl) (Ext.stable _) hCD (yieldsU_val rfl (fun u hu => by go_simp)) ?_
      refine anyU_takeP (i := 6) (j := 58) (v := .int .i64 (j : Int)) 51 [45, 36, 27, 26, 17, 16, 9, 8, 7] rfl rfl (by kernel_rfl) (by kernel_rfl) (by kernel_rfl) (fun _ _ _ h => h) (by kernel_rfl) (Ext.stable _) hCD (yieldsU_val rfl (fun u hu => by go_simp)) ?_
      refine anyU_takeP (i := 7) (j := 58) (v := .bool false) 52 [45, 36, 27, 26, 17, 16, 9, 8] rfl rfl (by kernel_rfl) (by kernel_rfl) (by kernel_rfl) (fun _ _ _ h => h) (by kernel_rfl) (Ext.stable _) hCD (yieldsU_val rfl (fun u hu => by go_simp)) ?_
      refine anyU_takeP (i := 8) (j := 58) (v := .bool false) 53 [45, 36, 27, 26, 17, 16, 9] rfl rfl (by kernel_rfl) (by kernel_rfl) (by kernel_rfl) (fun _ _ _ h => h) (by kernel_rfl) (Ext.stable _) hCD (yieldsU_val rfl (fun u hu => by go_simp)) ?_
      refine anyU_takeP (i := 9) (j := 58) (v := .bool false) 54 [45, 36, 27, 26, 17, 16] rfl rfl (by kernel_rfl) (by kernel_rfl) (by kernel_rfl) (fun _ _ _ h => h) (by kernel_rfl) (Ext.stable _) hCD (yieldsU_val rfl (fun u hu => by go_simp)) ?_
      simp only [Act.put, List.setIfInBounds_toArray, List.set_cons_succ, List.set_cons_zero]
      refine anyU_takeP (i := 10) (j := 58) (v := .slice (some ⟨g, 0, none⟩) j cap) 55 [45, 36, 27, 26, 17, 14, 12] rfl rfl (by kernel_rfl) (by kernel_rfl) (by kernel_rfl) (fun _ _ _ h => h) (by kernel_rfl) (Ext.stable _) hCD (yieldsU_val rfl (fun u hu => by go_simp)) ?_
      refine anyU_takeP (i := 11) (j := 58) (v := .int .i64 (k : Int)) 56 [45, 36, 27, 26, 17, 14, 12] rfl rfl (by kernel_rfl) (by kernel_rfl) (by kernel_rfl) (fun _ _ _ h => h) (by kernel_rfl) (Ext.stable _) hCD (yieldsU_val rfl (fun u hu => by go_simp)) ?_
      refine anyU_takeP (i := 12) (j := 58) (v := .slice (some ⟨g, 0, none⟩) k cap) 57 [45, 36, 27, 26, 17, 14] rfl rfl (by kernel_rfl) (by kernel_rfl) (by kernel_rfl) (fun _ _ _ h => h) (by kernel_rfl) (Ext.stable _) hCD (yieldsU_val rfl (fun u hu => by go_simp)) ?_
      refine anyU_takeP (i := 13) (j := 58) (v := .slice p k c) 58 [45, 36, 27, 26, 17, 14] rfl rfl (by kernel_rfl) (by kernel_rfl) (by kernel_rfl) (fun _ _ _ h => h) (by kernel_rfl) (Ext.stable _) hCD (yieldsU_val rfl (fun u hu => by go_simp)) ?_
      simp only [Act.put, List.setIfInBounds_toArray, List.set_cons_succ, List.set_cons_zero]
      refine anyU_takeP (i := 14) (j := 58) (v := .bool true) 59 [45, 36, 27, 26, 17] rfl rfl (by kernel_rfl) (by kernel_rfl) (by kernel_rfl) (fun _ _ _ h => h) (by kernel_rfl) (Ext.stable _) hCD (yieldsU_call rfl 14 _ _ rfl #[.slice (some ⟨g, 0, none⟩) k cap, .slice p k c] (by simp [Act.eval, Act.put]) (fun u => by go_simp) (fun u hu => rsame_eq (some ⟨g, 0, none⟩) p k cap c ls ls u (Lib.hid (LT.out.below hu)) (Lib.hid (LX.out.below hu)) (by omega) true SM)) ?_
      refine anyU_takeP (i := 15) (j := 58) (v := .bool false) 60 [45, 36, 27, 26, 17, 16] rfl rfl (by kernel_rfl) (by kernel_rfl) (by kernel_rfl) (fun _ _ _ h => h) (by kernel_rfl) (Ext.stable _) hCD (yieldsU_val rfl (fun u hu => by go_simp)) ?_
      refine anyU_takeP (i := 16) (j := 58) (v := .bool false) 61 [45, 36, 27, 26, 17] rfl rfl (by kernel_rfl) (by kernel_rfl) (by kernel_rfl) (fun _ _ _ h => h) (by kernel_rfl) (Ext.stable _) hCD (yieldsU_val rfl (fun u hu => by go_simp)) ?_
      refine anyU_takeP (i := 17) (j := 58) (v := .bool false) 62 [45, 36, 27, 26] rfl rfl (by kernel_rfl) (by kernel_rfl) (by kernel_rfl) (fun _ _ _ h => h) (by kernel_rfl) (Ext.stable _) hCD (yieldsU_val rfl (fun u hu => by go_simp)) ?_
      simp only [Act.put, List.setIfInBounds_toArray, List.set_cons_succ, List.set_cons_zero]
      refine anyU_takeP (i := 18) (j := 58) (v := .slice (some ⟨g, 0, none⟩) j cap) 63 [45, 36, 27, 26, 25, 22, 21, 20] rfl rfl (by kernel_rfl) (by kernel_rfl) (by kernel_rfl) (fun _ _ _ h => h) (by kernel_rfl) (Ext.stable _) hCD (yieldsU_val rfl (fun u hu => by go_simp)) ?_
      refine anyU_takeP (i := 19) (j := 58) (v := .int .i64 (k : Int)) 64 [45, 36, 27, 26, 25, 22, 21, 20] rfl rfl (by kernel_rfl) (by kernel_rfl) (by kernel_rfl) (fun _ _ _ h => h) (by kernel_rfl) (Ext.stable _) hCD (yieldsU_val rfl (fun u hu => by go_simp)) ?_
      refine anyU_takeP (i := 20) (j := 58) (v := .pointer (some ⟨g, k * 35, none⟩)) 65 [45, 36, 27, 26, 25, 22, 21] rfl rfl (by kernel_rfl) (by kernel_rfl) (by kernel_rfl) (fun _ _ _ h => h) (by kernel_rfl) (Ext.stable _) hCD (yieldsU_val rfl (fun u hu => by go_simp)) ?_
      refine anyU_takeP (i := 21) (j := 58) (v := .pointer (some ⟨g, k * 35 + 2, none⟩)) 66 [45, 36, 27, 26, 25, 22] rfl rfl (by kernel_rfl) (by kernel_rfl) (by kernel_rfl) (fun _ _ _ h => h) (by kernel_rfl) (Ext.stable _) hCD (yieldsU_val rfl (fun u hu => by go_simp)) ?_
      refine anyU_takeP (i := 22) (j := 58) (v := .agg (bv ds).toArray) 67 [45, 36, 27, 26, 25] rfl rfl (by kernel_rfl) (by kernel_rfl) (by kernel_rfl) (fun _ _ _ h => h) (by kernel_rfl) (Ext.stable _) hCD (yieldsU_of_C (yields_loadM (by rfl) (.tmp 66) rfl g (k * 35 + 2) rfl ds hld.out (fun u hu => fun j hj => (hu.cell (p := ⟨g, k * 35 + 2 + j, none⟩) hgV).trans (CP.out j hj)))) ?_
      simp only [Act.put, List.setIfInBounds_toArray, List.set_cons_succ, List.set_cons_zero]
      refine anyU_takeP (i := 23) (j := 58) (v := .slice p k c) 68 [45, 36, 27, 24] rfl rfl (by kernel_rfl) (by kernel_rfl) (by kernel_rfl) (fun _ _ _ h => h) (by kernel_rfl) (Ext.stable _) hCD (yieldsU_val rfl (fun u hu => by go_simp)) ?_
      refine anyU_takeP (i := 24) (j := 58) (v := .agg (bv ds).toArray) 69 [45, 36, 27] rfl rfl (by kernel_rfl) (by kernel_rfl) (by kernel_rfl) (fun _ _ _ h => h) (by kernel_rfl) (Ext.stable _) hCD (yieldsU_call rfl 15 _ _ rfl #[.slice p k c] (by simp [Act.eval, Act.put]) (fun u => by go_simp) (fun u hu => chead_is p k c ls u (Lib.hid (LX.out.below hu)) (Lib.hid (hkey.out.below (bel_trans BX.out hu))) hsm ds HD)) ?_
      simp only [Act.put, List.setIfInBounds_toArray, List.set_cons_succ, List.set_cons_zero]
      refine anyU_takeP (i := 25) (j := 58) (v := .bool false) 70 [45, 36, 27, 26] rfl rfl (by kernel_rfl) (by kernel_rfl) (by kernel_rfl) (fun _ _ _ h => h) (by kernel_rfl) (Ext.stable _) hCD (yieldsU_val rfl (fun u hu => by have e := EQ u; go_simp)) ?_
      refine anyU_takeP (i := 26) (j := 58) (v := .bool false) 71 [45, 36, 27] rfl rfl (by kernel_rfl) (by kernel_rfl) (by kernel_rfl) (fun _ _ _ h => h) (by kernel_rfl) (Ext.stable _) hCD (yieldsU_val rfl (fun u hu => by go_simp)) ?_
      refine anyU_takeP (i := 27) (j := 58) (v := .bool false) 72 [45, 36] rfl rfl (by kernel_rfl) (by kernel_rfl) (by kernel_rfl) (fun _ _ _ h => h) (by kernel_rfl) (Ext.stable _) hCD (yieldsU_val rfl (fun u hu => by go_simp)) ?_
      simp only [Act.put, List.setIfInBounds_toArray, List.set_cons_succ, List.set_cons_zero]
      refine anyU_takeP (i := 28) (j := 58) (v := .slice (some ⟨g, 0, none⟩) j cap) 73 [45, 36, 35, 34, 32, 31, 30] rfl rfl (by kernel_rfl) (by kernel_rfl) (by kernel_rfl) (fun _ _ _ h => h) (by kernel_rfl) (Ext.stable _) hCD (yieldsU_val rfl (fun u hu => by go_simp)) ?_
      refine anyU_takeP (i := 29) (j := 58) (v := .int .i64 (k : Int)) 74 [45, 36, 35, 34, 32, 31, 30] rfl rfl (by kernel_rfl) (by kernel_rfl) (by kernel_rfl) (fun _ _ _ h => h) (by kernel_rfl) (Ext.stable _) hCD (yieldsU_val rfl (fun u hu => by go_simp)) ?_
      refine anyU_takeP (i := 30) (j := 58) (v := .pointer (some ⟨g, k * 35, none⟩)) 75 [45, 36, 35, 34, 32, 31] rfl rfl (by kernel_rfl) (by kernel_rfl) (by kernel_rfl) (fun _ _ _ h => h) (by kernel_rfl) (Ext.stable _) hCD (yieldsU_val rfl (fun u hu => by go_simp)) ?_
      refine anyU_takeP (i := 31) (j := 58) (v := .pointer (some ⟨g, k * 35 + 1, none⟩)) 76 [45, 36, 35, 34, 32] rfl rfl (by kernel_rfl) (by kernel_rfl) (by kernel_rfl) (fun _ _ _ h => h) (by kernel_rfl) (Ext.stable _) hCD (yieldsU_val rfl (fun u hu => by go_simp)) ?_
      refine anyU_takeP (i := 32) (j := 58) (v := .int .i64 (k : Int)) 77 [45, 36, 35, 34] rfl rfl (by kernel_rfl) (by kernel_rfl) (by kernel_rfl) (fun _ _ _ h => h) (by kernel_rfl) (Ext.stable _) hCD (yieldsU_val rfl (fun u hu => by have cc := (hu.cell (p := ⟨g, k * 35 + 1, none⟩) hgV).trans CN.out; go_simp)) ?_
      simp only [Act.put, List.setIfInBounds_toArray, List.set_cons_succ, List.set_cons_zero]
      refine anyU_takeP (i := 33) (j := 58) (v := .int .i64 (k : Int)) 78 [45, 36, 35, 34] rfl rfl (by kernel_rfl) (by kernel_rfl) (by kernel_rfl) (fun _ _ _ h => h) (by kernel_rfl) (Ext.stable _) hCD (yieldsU_val rfl (fun u hu => by go_simp)) ?_
      refine anyU_takeP (i := 34) (j := 58) (v := .bool false) 79 [45, 36, 35] rfl rfl (by kernel_rfl) (by kernel_rfl) (by kernel_rfl) (fun _ _ _ h => h) (by kernel_rfl) (Ext.stable _) hCD (yieldsU_val rfl (fun u hu => by go_simp)) ?_
      refine anyU_takeP (i := 35) (j := 58) (v := .bool false) 80 [45, 36] rfl rfl (by kernel_rfl) (by kernel_rfl) (by kernel_rfl) (fun _ _ _ h => h) (by kernel_rfl) (Ext.stable _) hCD (yieldsU_val rfl (fun u hu => by go_simp)) ?_
      refine anyU_takeP (i := 36) (j := 58) (v := .bool false) 81 [45] rfl rfl (by kernel_rfl) (by kernel_rfl) (by kernel_rfl) (fun _ _ _ h => h) (by kernel_rfl) (Ext.stable _) hCD (yieldsU_val rfl (fun u hu => by go_simp)) ?_
      simp only [Act.put, List.setIfInBounds_toArray, List.set_cons_succ, List.set_cons_zero]
      refine anyU_takeP (i := 37) (j := 58) (v := .slice (some ⟨g, 0, none⟩) j cap) 82 [45, 44, 43, 41, 40, 39] rfl rfl (by kernel_rfl) (by kernel_rfl) (by kernel_rfl) (fun _ _ _ h => h) (by kernel_rfl) (Ext.stable _) hCD (yieldsU_val rfl (fun u hu => by go_simp)) ?_
      refine anyU_takeP (i := 38) (j := 58) (v := .int .i64 (k : Int)) 83 [45, 44, 43, 41, 40, 39] rfl rfl (by kernel_rfl) (by kernel_rfl) (by kernel_rfl) (fun _ _ _ h => h) (by kernel_rfl) (Ext.stable _) hCD (yieldsU_val rfl (fun u hu => by go_simp)) ?_
      refine anyU_takeP (i := 39) (j := 58) (v := .pointer (some ⟨g, k * 35, none⟩)) 84 [45, 44, 43, 41, 40] rfl rfl (by kernel_rfl) (by kernel_rfl) (by kernel_rfl) (fun _ _ _ h => h) (by kernel_rfl) (Ext.stable _) hCD (yieldsU_val rfl (fun u hu => by go_simp)) ?_
      refine anyU_takeP (i := 40) (j := 58) (v := .pointer (some ⟨g, k * 35, none⟩)) 85 [45, 44, 43, 41] rfl rfl (by kernel_rfl) (by kernel_rfl) (by kernel_rfl) (fun _ _ _ h => h) (by kernel_rfl) (Ext.stable _) hCD (yieldsU_val rfl (fun u hu => by go_simp)) ?_
      refine anyU_takeP (i := 41) (j := 58) (v := .int .i64 nd) 86 [45, 44, 43] rfl rfl (by kernel_rfl) (by kernel_rfl) (by kernel_rfl) (fun _ _ _ h => h) (by kernel_rfl) (Ext.stable _) hCD (yieldsU_val rfl (fun u hu => by have cc := (hu.cell (p := ⟨g, k * 35, none⟩) hgV).trans CM.out; go_simp)) ?_
      simp only [Act.put, List.setIfInBounds_toArray, List.set_cons_succ, List.set_cons_zero]
      refine anyU_takeP (i := 42) (j := 58) (v := .int .i64 nd) 87 [45, 44, 43] rfl rfl (by kernel_rfl) (by kernel_rfl) (by kernel_rfl) (fun _ _ _ h => h) (by kernel_rfl) (Ext.stable _) hCD (yieldsU_val rfl (fun u hu => by go_simp)) ?_
      refine anyU_takeP (i := 43) (j := 58) (v := .bool false) 88 [45, 44] rfl rfl (by kernel_rfl) (by kernel_rfl) (by kernel_rfl) (fun _ _ _ h => h) (by kernel_rfl) (Ext.stable _) hCD (yieldsU_val rfl (fun u hu => by go_simp)) ?_
      refine anyU_takeP (i := 44) (j := 58) (v := .bool false) 89 [45] rfl rfl (by kernel_rfl) (by kernel_rfl) (by kernel_rfl) (fun _ _ _ h => h) (by kernel_rfl) (Ext.stable _) hCD (yieldsU_val rfl (fun u hu => by go_simp)) ?_
      refine anyU_takeP (i := 45) (j := 58) (v := .bool false) 90 [] rfl rfl (by kernel_rfl) (by kernel_rfl) (by kernel_rfl) (fun _ _ _ h => h) (by kernel_rfl) (Ext.stable _) hCD (yieldsU_val rfl (fun u hu => by go_simp)) ?_
      simp only [Act.put, List.setIfInBounds_toArray, List.set_cons_succ, List.set_cons_zero]
      refine anyU_takeP (i := 46) (j := 58) (v := .slice (some ⟨g, 0, none⟩) j cap) 91 [57, 51, 50, 49, 48] rfl rfl (by kernel_rfl) (by kernel_rfl) (by kernel_rfl) (fun _ _ _ h => h) (by kernel_rfl) (Ext.stable _) hCD (yieldsU_val rfl (fun u hu => by go_simp)) ?_
      refine anyU_takeP (i := 47) (j := 58) (v := .int .i64 (k : Int)) 92 [57, 51, 50, 49, 48] rfl rfl (by kernel_rfl) (by kernel_rfl) (by kernel_rfl) (fun _ _ _ h => h) (by kernel_rfl) (Ext.stable _) hCD (yieldsU_val rfl (fun u hu => by go_simp)) ?_
      refine anyU_takeP (i := 48) (j := 58) (v := .pointer (some ⟨g, k * 35, none⟩)) 93 [57, 51, 50, 49] rfl rfl (by kernel_rfl) (by kernel_rfl) (by kernel_rfl) (fun _ _ _ h => h) (by kernel_rfl) (Ext.stable _) hCD (yieldsU_val rfl (fun u hu => by go_simp)) ?_
      refine anyU_takeP (i := 49) (j := 58) (v := .pointer (some ⟨g, k * 35 + 34, none⟩)) 94 [57, 51, 50] rfl rfl (by kernel_rfl) (by kernel_rfl) (by kernel_rfl) (fun _ _ _ h => h) (by kernel_rfl) (Ext.stable _) hCD (yieldsU_val rfl (fun u hu => by go_simp)) ?_
      refine anyU_takeP (i := 50) (j := 58) (v := .slice q2 r.m c2) 95 [57, 51] rfl rfl (by kernel_rfl) (by kernel_rfl) (by kernel_rfl) (fun _ _ _ h => h) (by kernel_rfl) (Ext.stable _) hCD (yieldsU_val rfl (fun u hu => by have cc := (hu.cell (p := ⟨g, k * 35 + 34, none⟩) hgV).trans CD.out; go_simp)) ?_
      simp only [Act.put, List.setIfInBounds_toArray, List.set_cons_succ, List.set_cons_zero]
      refine anyU_takeP (i := 51) (j := 58) (v := .string s) 96 [57] rfl rfl (by kernel_rfl) (by kernel_rfl) (by kernel_rfl) (fun _ _ _ h => h) (by kernel_rfl) (Ext.stable _) hCD (yieldsU_val rfl (fun u hu => by have cv := conv_srcW (CS.out.below hu); rw [HS.out] at cv; go_simp)) ?_
      simp only [Act.put, List.setIfInBounds_toArray, List.set_cons_succ, List.set_cons_zero]
      refine anyU_takeP (i := 52) (j := 58) (v := .slice (some ⟨b, off, none⟩) n c0) 97 [57, 56, 55, 54] rfl rfl (by kernel_rfl) (by kernel_rfl) (by kernel_rfl) (fun _ _ _ h => h) (by kernel_rfl) (Ext.stable _) hCD (yieldsU_val rfl (fun u hu => by go_simp)) ?_
      refine anyU_takeP (i := 53) (j := 58) (v := .int .i64 (k : Int)) 98 [57, 56, 55, 54] rfl rfl (by kernel_rfl) (by kernel_rfl) (by kernel_rfl) (fun _ _ _ h => h) (by kernel_rfl) (Ext.stable _) hCD (yieldsU_val rfl (fun u hu => by go_simp)) ?_
      refine anyU_takeP (i := 54) (j := 58) (v := .pointer (some ⟨b, off + k, none⟩)) 99 [57, 56, 55] rfl rfl (by kernel_rfl) (by kernel_rfl) (by kernel_rfl) (fun _ _ _ h => h) (by kernel_rfl) (Ext.stable _) hCD (yieldsU_val rfl (fun u hu => by go_simp)) ?_
      refine anyU_takeP (i := 55) (j := 58) (v := .slice r.p r.m r.c) 100 [57, 56] rfl rfl (by kernel_rfl) (by kernel_rfl) (by kernel_rfl) (fun _ _ _ h => h) (by kernel_rfl) (Ext.stable _) hCD (yieldsU_val rfl (fun u hu => by have cc := (hu.cell (p := ⟨b, off + k, none⟩) hbV).trans CR.out; go_simp)) ?_
      simp only [Act.put, List.setIfInBounds_toArray, List.set_cons_succ, List.set_cons_zero]
      refine anyU_takeP (i := 56) (j := 58) (v := .string s) 101 [57] rfl rfl (by kernel_rfl) (by kernel_rfl) (by kernel_rfl) (fun _ _ _ h => h) (by kernel_rfl) (Ext.stable _) hCD (yieldsU_val rfl (fun u hu => by have cv := conv_srcW (CT.out.below hu); rw [HS.out] at cv; go_simp)) ?_
      refine anyU_takeP (i := 57) (j := 58) (v := .bool false) 102 [] rfl rfl (by kernel_rfl) (by kernel_rfl) (by kernel_rfl) (fun _ _ _ h => h) (by kernel_rfl) (Ext.stable _) hCD (yieldsU_val rfl (fun u hu => by go_simp)) ?_
      simp only [Act.put, List.setIfInBounds_toArray, List.set_cons_succ, List.set_cons_zero]
      refine anyU_tail 58 [] rfl rfl (by decide) (by kernel_rfl) ?_
      intro u hu
      simp only [Act.put, List.filterMap_cons, List.filterMap_nil, List.getElem?_cons_succ, List.getElem?_cons_zero]
      have BU := Lib.hid (bel_trans BX.out hu)
      have LU := Lib.hid (LV.out.below hu)
      clear hu
      have CJ := Lib.hid (HC.out.snoc hlo hhi HD.out (q := q2) (m := r.m) (c := c2) (bs := r.bs) (by have := srcW_len CT.out; omega) hkl.out.symm)
      generalize ls ++ [(⟨nd, k, ds, q2, r.m, c2, r.bs⟩ : Lk)] = ms at LU CJ
      clear LV LX LT CP CN CM CD CS CR CT EQ hCD
      go_wp2_with fail
      go_roundw
      case rel => exact ⟨j, some ⟨g, 0, none⟩, cap, ms, hjn, rfl, by simp, LU, CJ, BU⟩
      case measure => have := HJ.out; simp [intOf]; omega
    · rename World => wx
      have hnk : n = k := by omega
      subst hnk
      have hkl := Lib.hid HL.out.len
      have hkc := HL.out.nc
      have hccm := HL.out.cm
      have hsm := Lib.hid (HC.out.small (by have := hkl.out; omega))
      go_wp2_with fail
      go_loopw [9] (fun i w9 => ∃ j : Nat, j ≤ n + 1 ∧ i = .int .i64 (j : Int) ∧ Hid (Below wx.heap.size wx w9)) (fun i _ => n + 1 - (intOf i).toNat)
      case atStart => exact ⟨0, by omega, by simp, Lib.hid (Below.refl _ _)⟩
      case round =>
        obtain ⟨j, hj, rfl, LB⟩ := hrel
        by_cases hjk : j ≤ n
        · have hd8 : decide ((j : Int) ≤ (n : Int)) = true := decide_eq_true (by omega)
          have hjc : j ≤ c := by omega
          go_wp2_with (go_at_call 16; with_reducible refine (ccheck_is p j c (ls.take j) 0 _ (Lib.hid ((HL.out.below LB.out).take hjk)) (Lib.hid (hsm.out.take j)) (Lib.hid (hkey.out.below (bel_trans HB.out LB.out))) (Lib.hid (HC.out.isTake j))).mono ?_; rintro e w3 ⟨rfl, hb3⟩; have B3 := Lib.hid (bel_trans LB.out hb3); clear hb3)
          go_roundw
          case rel => exact ⟨j + 1, by omega, by simp, B3⟩
          case measure => simp [intOf]; omega
        · have hd8 : decide ((j : Int) ≤ (n : Int)) = false := decide_eq_false (by omega)
          go_wp2_with fail
          go_ret
          exact ⟨rfl, bel_trans HB.out LB.out⟩
theorem built_walk (nd : Int) (p0 : Option Addr) (n c0 : Nat) (rs : List Rw) (w : World) (hs : Hid (SecsV w p0 n rs)) (hnc : n ≤ c0) (hcm : c0 ≤ 9223372036854775807) (hkey : Hid (KeysAt w)) :
    Calls Tryd.prog 4 #[.int .i64 nd, .slice p0 n c0] w fun r w' => r = .returned (.bool true) ∧ Below w.heap.size w w' := by
  by_cases h12 : 12 < n
  · exact built_big nd p0 n c0 rs w hs hnc hcm hkey h12
  by_cases h0 : nd < 0
  · exact built_neg nd p0 n c0 rs w hs hnc hcm hkey (by omega) h0
  by_cases h1 : 24 ≤ nd
  · exact built_max nd p0 n c0 rs w hs hnc hcm hkey (by omega) (by omega) h1
  exact built_main nd p0 n c0 rs w hs hnc hcm hkey (by omega) (by omega) (by omega)

namespace chainBuilt
theorem readable : ∀ t ∈ Tryd.f4.params.toList, Tryd.prog.readableRec t = true ∧ t < Tryd.prog.types.size := by
  rw [Tryd.params4]
  intro t ht
  simp only [List.mem_cons, List.not_mem_nil, or_false] at ht
  rcases ht with rfl | rfl
  all_goals exact ⟨by kernel_rfl, by decide +kernel⟩

set_option maxRecDepth 100000 in
theorem lifted (os : Os) (started : os.Started) (H : Type) (enc : TypeId × Value → H) :
    ReturnsInHanded {} Tryd.checked os 4 .any (fun w args => (Rows.chainBuiltSpec.pre enc Tryd.prog Tryd.f4 [] false w args ∧ laidMetH Tryd.prog laidK w) ∧ sizedMet enc Tryd.prog Tryd.f4 (OpenSpec.ofChange Rows.chainBuiltSpec) false w args)
      (Rows.chainBuiltSpec.post enc Tryd.prog Tryd.f4 false true false false) := by
  refine returnsInHanded_of_change_and (C := Tryd.checked) (X := fun w _ => laidMetH Tryd.prog laidK w) (fun _ _ _ hh h => h.of_heap hh) own_knob started (by kernel_rfl) Tryd.func4
    (ChangeSpec.witness_shaped (enc := enc) (C := Tryd.checked) (os := os) (X := fun w _ => laidMetH Tryd.prog laidK w) false (World.doorLaid Tryd.prog 400 os) #[.int .i64 0, .slice none 0 0] 8 rfl (World.shaped_of_RefB (by kernel_rfl) (by kernel_rfl)) (by kernel_rfl) (by kernel_rfl) (by kernel_rfl) (door_met os _)) ?_
  intro W base args ds gs before hval0 hW _ _ hL _
  have hval : ∀ (j : Nat) t v, Tryd.f4.params[j]? = some t → args[j]? = some v → Value.okWide Tryd.prog W .any base t v := hval0
  have hW' := hW
  obtain ⟨p, q, hA0, hV, rfl, hfz, hnd⟩ := hW
  have hA : DataW.TrodAll enc Tryd.prog W 0 (fun _ => true) true Tryd.f4.params.toList args.toList ds p := hA0
  rw [Tryd.params4] at hA hval
  obtain ⟨v0, vs0, d0, ds0, p0, q0, hargs, rfl, rfl, h0, r0⟩ := trodAll_cons hA
  obtain ⟨v1, vs1, d1, ds1, p1, q1, rfl, rfl, rfl, h1, r1⟩ := trodAll_cons r0
  obtain ⟨rfl, rfl, rfl⟩ := trodAll_nil r1
  obtain rfl : args = #[v0, v1] := by cases args; simp_all
  obtain ⟨rfl, rfl⟩ := trodVars_none hV
  obtain ⟨a0, rfl, rfl, rfl, w0⟩ := open_int Tryd.underlying3 (hval 0 3 v0 rfl rfl) h0
  obtain ⟨s1, n1, c1, l1, rfl, w1, x1, y1, u1⟩ := open_secs Tryd.underlying33 Tryd.underlying23 Tryd.underlying5 (by kernel_rfl) (by kernel_rfl) (hval 1 33 v1 rfl rfl) h1
  have hK := of_laid hL
  clear hA0 hval0
  refine (built_walk a0 s1 n1 c1 l1 W (Lib.hid w1) x1 y1 (Lib.hid hK)).mono fun e W' ⟨he, hb⟩ => ?_
  subst he
  exact ⟨_, rfl, law_post laid_out readable rfl rfl Tryd.underlying4 hW' rfl rfl rfl hb⟩

theorem over : Rows.chainBuiltRow.holds Tryd.pinned (OpenSpec.ofChange Rows.chainBuiltSpec) :=
  OpenClaim.holds_of_wide 4 Tryd.f4 rfl rfl rfl rfl rfl rfl rfl ⟨rfl, rfl, rfl, rfl, rfl⟩ rfl rfl rfl rfl rfl (by kernel_rfl) Tryd.func4 (by kernel_rfl)
    (of_decide_eq_true (by kernel_rfl)) (by unfold Func.isWrapper; first | (rw [if_pos (by decide +kernel)]; kernel_rfl) | (rw [if_neg (by decide +kernel)]; exact ⟨rfl, rfl⟩))
    (fun os started H enc _ => lifted os started H enc)

/-- the statement: the tied card -/
theorem proved : Rows.ChainBuiltCardSaid :=
  Claim7.holds_tied_plain_at .later [] [.data] true (true, "40284c324d3d6a13069895ce4ab99fdefbc2f5f94b227550a7a899fa5adc4483") false
    over (fun _ h => by cases h) (by kernel_rfl) (fun _ h => by cases h) chainBuilt_row_tie rfl ⟨rfl, rfl⟩ (by kernel_rfl) rfl
    (fun f fn hf hfn => by
      obtain rfl : f = 4 := Option.some.inj ((show Tryd.prog.funcNamed "franking/frankinglaw08.ChainBuilt" = some 4 by kernel_rfl).symm.trans hf) |>.symm
      obtain rfl : fn = Tryd.f4 := (Option.some.inj (Tryd.func4.symm.trans hfn)).symm
      exact ⟨by kernel_rfl, fun j t ht => by
        rw [Tryd.params4] at ht
        have hm : t ∈ [3, 33] := by simpa using Array.mem_of_getElem? ht
        have hall : ([3, 33].all fun u => !Tryd.prog.wantsStandIn u) = true := by kernel_rfl
        exact (show Tryd.prog.wantsStandIn t = false by simpa using List.all_eq_true.1 hall t hm)⟩)
    (by kernel_rfl)
end chainBuilt
end Go.Proofs.YtllcgehfmkmcdaaDoor
