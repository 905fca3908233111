/- A link of a chain is replaced by one that is different. No condition. -/
import Derived.Test.YtllcgehfmkmcdaaDoorChainEqual
import Derived.Test.YtllcgehfmkmcdaaDoorChnSet
namespace Go.Proofs.YtllcgehfmkmcdaaDoor
open Go.ChangeShapes Go.WideShapes Go.ChangeAt Go.RowKit Go.WideElems Go.Shelf
set_option linter.unusedVariables false
set_option linter.unusedSimpArgs false

theorem list_storeKat2 {ops : Array Oper} {rest : List Oper} {o : Oper} {a : Act} {w : World} {Q : Exit → Act → World → Prop} (hgd : o.guard = none) (x y : Operand) (ho : o.op = .store 37 x y)
    (w0 : World) (g n cap k : Nat) (l : List Lk) (z : Lk) (hx : a.eval x = .pointer (some ⟨g, k * 35, none⟩)) (hy : a.eval y = .agg (lkv z).toArray) (hO : OwnK w w0.heap.size (.slice (some ⟨g, 0, none⟩) n cap) l) (hB : Below w0.heap.size w0 w) (hok : ∀ x ∈ l, LkOk w0 x) (hz : LkOk w0 z) (hk : k < l.length) (hl : l.length ≤ 1000000)
    (h : ∀ w', LksV w' (some ⟨g, 0, none⟩) l.length cap (l.set k z) → Below w0.heap.size w0 w' → wpList Tryd.prog ops Q rest (a.put o.dst undef) w') : wpList Tryd.prog ops Q (o :: rest) a w :=
  list_storeKat hgd x y ho w0 g n cap k l z (by rw [Nat.zero_add]; exact hx) hy hO hB hok hz hk hl h
theorem bel_grownK {w0 w w' : World} {B : Nat} {v : Value} {l : List Lk} (k : Below B w0 w) (ho : OwnK w B v l) (hg : w.grownBy w' v.ownBlock) (hB : B ≤ w.heap.size) : Below B w0 w' :=
  k.trans ⟨hg.os, hg.tape, hg.output, hg.size, fun i hi => hg.block i (by omega) (by intro e; have := (World.ownsRow.lt ho) i e.symm; omega)⟩
theorem small_set {ls : List Lk} {k : Nat} {x : Lk} (h : Small ls) (hx : x.bs.length ≤ 400) : Small (ls.set k x) := ⟨by rw [List.length_set]; exact h.n, fun y hy => by
  rcases List.mem_or_eq_of_mem_set hy with h1 | rfl
  · exact h.d y h1
  · exact hx⟩
/-- a chain with a link replaced: unless it is the last one, two different texts have one head -/
theorem clash_set {ls : List Lk} {k : Nat} {x : Lk} (ha : AllB (linB ls) ls.length) (hb : AllB (linB (ls.set k x)) (ls.set k x).length) (sa : Small ls) (sx : x.bs.length ≤ 400) (hk : k + 1 < ls.length) (hf : samB (ls.getD k lk0) x = false) :
    ¬ lkT ((ls.take (k + 1)).getD k lk0) = lkT (((ls.set k x).take (k + 1)).getD k lk0) ∧ headOf (ls.take (k + 1)) = headOf ((ls.set k x).take (k + 1)) := by
  have g0 : ∀ j, j ≠ k → (ls.set k x).getD j lk0 = ls.getD j lk0 := fun j hj => by simp [List.getD, List.getElem?_set, Ne.symm hj]
  have g1 : (ls.set k x).getD k lk0 = x := by simp [List.getD, show k < ls.length by omega]
  obtain ⟨a1, a2, a3⟩ := fld_of (ha (k + 1) hk)
  obtain ⟨b1, b2, b3⟩ := fld_of (hb (k + 1) (by rw [List.length_set]; exact hk))
  obtain ⟨c1, c2, c3⟩ := fld_of (ha k (by omega))
  obtain ⟨d1, d2, d3⟩ := fld_of (hb k (by rw [List.length_set]; omega))
  rw [g0 _ (by omega)] at b3
  refine ⟨?_, by rw [← a3, ← b3]⟩
  rw [getD_takeE (by omega), getD_takeE (by omega), g1]
  rw [g1] at d1 d2 d3
  have hn := sa.n
  intro hT
  have hs := lkT_inj (by rw [c3]; exact headOf_len _) (by rw [d3]; exact headOf_len _) c1 d1 (by rw [c2]; omega) (by rw [d2]; omega) (sa.d _ (getD_memL (by omega))) sx hT
  rw [samB_iff.2 hs] at hf; cases hf
set_option maxRecDepth 100000 in
set_option maxHeartbeats 8000000 in
theorem changed_f0 (p : Option Addr) (n c : Nat) (ls : List Lk) (av : Int) (x : Lk) (w : World) (hs : Hid (LksV w p n c ls)) (hx : Hid (LkOk w x)) (hkey : Hid (KeysAt w)) (hfa : Hid (fewB ls = false)) :
    Calls Tryd.prog 6 #[.slice p n c, .int .u8 av, .agg (lkv x).toArray] w fun r w' => r = .returned (.bool true) ∧ Below w.heap.size w w' := by
  have hnc := hs.out.nc
  have hcm := hs.out.cm
  have hWX := Lib.hid (KBlk.box w hx.out.len)
  have B0 := Lib.hid (bel_alloc1 w (.cells (lkv x).toArray 37))
  have hsW := Lib.hid (hs.out.below B0.out)
  have hxW := Lib.hid (hx.out.below B0.out)
  have hkW := Lib.hid (hkey.out.below B0.out)
  have hxl := Lib.hid hx.out.len
  go_enter Tryd.func6, Tryd.ntmps6
  go_upto_region 1 with fail
  generalize World.alloc w _ = W at hWX B0 hsW hxW hkW ⊢
  go_wp2_with (first
    | (go_at_call 8; with_reducible refine (sane08_any W hkW).mono ?_; rintro r w1 ⟨rfl, hb⟩; have B1 := Lib.hid hb; have X1 := Lib.hid (hWX.out.bel hb); obtain ⟨_, _, _, x3⟩ := X1.out.cells; clear hb)
    | (go_at_call 9; with_reducible refine (rfew_is p n c ls _ (Lib.hid (hsW.out.below B1.out)) false hfa).mono ?_; rintro r w' ⟨rfl, rfl⟩))
  go_ret
  exact ⟨rfl, bel_trans B0.out B1.out⟩
set_option maxRecDepth 100000 in
set_option maxHeartbeats 8000000 in
theorem changed_e (p : Option Addr) (n c : Nat) (ls : List Lk) (av : Int) (x : Lk) (w : World) (hs : Hid (LksV w p n c ls)) (hx : Hid (LkOk w x)) (hkey : Hid (KeysAt w)) (hfa : Hid (fewB ls = true)) (h0 : Hid (n = 0)) :
    Calls Tryd.prog 6 #[.slice p n c, .int .u8 av, .agg (lkv x).toArray] w fun r w' => r = .returned (.bool true) ∧ Below w.heap.size w w' := by
  have hd1 : decide ((n : Int) = 0) = true := decide_eq_true (by have := h0.out; omega)
  have hd2 : ((n : Int) == 0) = true := by have := h0.out; simp; omega
  have hnc := hs.out.nc
  have hcm := hs.out.cm
  have hWX := Lib.hid (KBlk.box w hx.out.len)
  have B0 := Lib.hid (bel_alloc1 w (.cells (lkv x).toArray 37))
  have hsW := Lib.hid (hs.out.below B0.out)
  have hxW := Lib.hid (hx.out.below B0.out)
  have hkW := Lib.hid (hkey.out.below B0.out)
  have hxl := Lib.hid hx.out.len
  go_enter Tryd.func6, Tryd.ntmps6
  go_upto_region 1 with fail
  generalize World.alloc w _ = W at hWX B0 hsW hxW hkW ⊢
  go_wp2_with (first
    | (go_at_call 8; with_reducible refine (sane08_any W hkW).mono ?_; rintro r w1 ⟨rfl, hb⟩; have B1 := Lib.hid hb; have X1 := Lib.hid (hWX.out.bel hb); obtain ⟨_, _, _, x3⟩ := X1.out.cells; clear hb)
    | (go_at_call 9; with_reducible refine (rfew_is p n c ls _ (Lib.hid (hsW.out.below B1.out)) true hfa).mono ?_; rintro r w' ⟨rfl, rfl⟩))
  go_ret
  exact ⟨rfl, bel_trans B0.out B1.out⟩
set_option maxRecDepth 100000 in
set_option maxHeartbeats 8000000 in
theorem changed_b (p : Option Addr) (n c : Nat) (ls : List Lk) (av : Int) (x : Lk) (w : World) (hs : Hid (LksV w p n c ls)) (hx : Hid (LkOk w x)) (hkey : Hid (KeysAt w)) (hfa : Hid (fewB ls = true)) (h0 : 0 < n) (h3 : 300 < x.m) :
    Calls Tryd.prog 6 #[.slice p n c, .int .u8 av, .agg (lkv x).toArray] w fun r w' => r = .returned (.bool true) ∧ Below w.heap.size w w' := by
  have hd1 : decide ((n : Int) = 0) = false := decide_eq_false (by omega)
  have hd2 : ((n : Int) == 0) = false := by simp; omega
  have hd3 : decide ((300 : Int) < (x.m : Int)) = true := decide_eq_true (by omega)
  have hnc := hs.out.nc
  have hcm := hs.out.cm
  have hWX := Lib.hid (KBlk.box w hx.out.len)
  have B0 := Lib.hid (bel_alloc1 w (.cells (lkv x).toArray 37))
  have hsW := Lib.hid (hs.out.below B0.out)
  have hxW := Lib.hid (hx.out.below B0.out)
  have hkW := Lib.hid (hkey.out.below B0.out)
  have hxl := Lib.hid hx.out.len
  go_enter Tryd.func6, Tryd.ntmps6
  go_upto_region 1 with fail
  generalize World.alloc w _ = W at hWX B0 hsW hxW hkW ⊢
  go_wp2_with (first
    | (go_at_call 8; with_reducible refine (sane08_any W hkW).mono ?_; rintro r w1 ⟨rfl, hb⟩; have B1 := Lib.hid hb; have X1 := Lib.hid (hWX.out.bel hb); obtain ⟨_, _, _, x3⟩ := X1.out.cells; clear hb)
    | (go_at_call 9; with_reducible refine (rfew_is p n c ls _ (Lib.hid (hsW.out.below B1.out)) true hfa).mono ?_; rintro r w' ⟨rfl, rfl⟩))
  go_ret
  exact ⟨rfl, bel_trans B0.out B1.out⟩
set_option maxRecDepth 100000 in
set_option maxHeartbeats 8000000 in
theorem changed_c (p : Option Addr) (n c : Nat) (ls : List Lk) (av : Int) (x : Lk) (w : World) (hs : Hid (LksV w p n c ls)) (hx : Hid (LkOk w x)) (hkey : Hid (KeysAt w)) (hfa : Hid (fewB ls = true)) (h0 : 0 < n) (h3 : x.m ≤ 300) (sa : Hid (Small ls)) (ha : Hid (IsChk ls 80)) :
    Calls Tryd.prog 6 #[.slice p n c, .int .u8 av, .agg (lkv x).toArray] w fun r w' => r = .returned (.bool true) ∧ Below w.heap.size w w' := by
  have hd1 : decide ((n : Int) = 0) = false := decide_eq_false (by omega)
  have hd2 : ((n : Int) == 0) = false := by simp; omega
  have hd3 : decide ((300 : Int) < (x.m : Int)) = false := decide_eq_false (by omega)
  have hnc := hs.out.nc
  have hcm := hs.out.cm
  have hWX := Lib.hid (KBlk.box w hx.out.len)
  have B0 := Lib.hid (bel_alloc1 w (.cells (lkv x).toArray 37))
  have hsW := Lib.hid (hs.out.below B0.out)
  have hxW := Lib.hid (hx.out.below B0.out)
  have hkW := Lib.hid (hkey.out.below B0.out)
  have hxl := Lib.hid hx.out.len
  go_enter Tryd.func6, Tryd.ntmps6
  go_upto_region 1 with fail
  generalize World.alloc w _ = W at hWX B0 hsW hxW hkW ⊢
  go_wp2_with (first
    | (go_at_call 8; with_reducible refine (sane08_any W hkW).mono ?_; rintro r w1 ⟨rfl, hb⟩; have B1 := Lib.hid hb; have X1 := Lib.hid (hWX.out.bel hb); obtain ⟨_, _, _, x3⟩ := X1.out.cells; clear hb)
    | (go_at_call 9; with_reducible refine (rfew_is p n c ls _ (Lib.hid (hsW.out.below B1.out)) true hfa).mono ?_; rintro r w' ⟨rfl, rfl⟩)
    | (go_at_call 16; with_reducible refine (ccheck_is p n c ls 80 w1 (Lib.hid (hsW.out.below B1.out)) sa (Lib.hid (hkW.out.below B1.out)) ha).mono ?_; rintro r w2 ⟨rfl, hb⟩; have B2 := Lib.hid (bel_trans B1.out hb); have X2 := Lib.hid (X1.out.bel hb); clear hb))
  go_ret
  exact ⟨rfl, bel_trans B0.out B2.out⟩
set_option maxRecDepth 100000 in
set_option maxHeartbeats 8000000 in
theorem changed_s (p : Option Addr) (n c : Nat) (ls : List Lk) (av : Int) (x : Lk) (w : World) (hs : Hid (LksV w p n c ls)) (hx : Hid (LkOk w x)) (hkey : Hid (KeysAt w)) (hfa : Hid (fewB ls = true)) (h0 : 0 < n) (h3 : x.m ≤ 300) (sa : Hid (Small ls)) (ha : Hid (IsChk ls 0)) (k : Nat) (hk : k < n) (hv0 : 0 ≤ av) (hv1 : av ≤ 255) (hm1 : Int.tmod av (n : Int) = (k : Int)) (hm2 : av % (n : Int) = (k : Int)) (hsb : Hid (samB (ls.getD k lk0) x = true)) :
    Calls Tryd.prog 6 #[.slice p n c, .int .u8 av, .agg (lkv x).toArray] w fun r w' => r = .returned (.bool true) ∧ Below w.heap.size w w' := by
  have hd1 : decide ((n : Int) = 0) = false := decide_eq_false (by omega)
  have hd2 : ((n : Int) == 0) = false := by simp; omega
  have hd3 : decide ((300 : Int) < (x.m : Int)) = false := decide_eq_false (by omega)
  obtain ⟨b, off, hp, hb, hr, hl⟩ := hs.out.at hk
  have HYO := Lib.hid hl
  obtain ⟨y, hy⟩ : ∃ y, ls.getD k lk0 = y := ⟨_, rfl⟩
  rw [hy] at hr HYO
  subst hp
  have hyl := Lib.hid HYO.out.len
  have RY0 := Lib.hid hr
  have HLN := Lib.hid hs.out.len
  have hn40 : n ≤ 40 := by have := sa.out.n; have := HLN.out; omega
  clear hr hl
  have hnc := hs.out.nc
  have hcm := hs.out.cm
  have hWX := Lib.hid (KBlk.box w hx.out.len)
  have B0 := Lib.hid (bel_alloc1 w (.cells (lkv x).toArray 37))
  have hsW := Lib.hid (hs.out.below B0.out)
  have hxW := Lib.hid (hx.out.below B0.out)
  have hkW := Lib.hid (hkey.out.below B0.out)
  have hxl := Lib.hid hx.out.len
  go_enter Tryd.func6, Tryd.ntmps6
  go_upto_region 1 with fail
  generalize World.alloc w _ = W at hWX B0 hsW hxW hkW ⊢
  go_upto_region 6 with (first
    | (go_at_call 8; with_reducible refine (sane08_any W hkW).mono ?_; rintro r w1 ⟨rfl, hb⟩; have B1 := Lib.hid hb; have X1 := Lib.hid (hWX.out.bel hb); obtain ⟨_, _, _, x3⟩ := X1.out.cells; clear hb)
    | (go_at_call 9; with_reducible refine (rfew_is (some ⟨b, off, none⟩) n c ls _ (Lib.hid (hsW.out.below B1.out)) true hfa).mono ?_; rintro r w' ⟨rfl, rfl⟩)
    | (go_at_call 16; with_reducible refine (ccheck_is (some ⟨b, off, none⟩) n c ls 0 w1 (Lib.hid (hsW.out.below B1.out)) sa (Lib.hid (hkW.out.below B1.out)) ha).mono ?_; rintro r w2 ⟨rfl, hb⟩; have B2 := Lib.hid (bel_trans B1.out hb); have X2 := Lib.hid (X1.out.bel hb); clear hb))
  refine wp_region_any (by kernel_rfl) ?_
  change wpAny _ _ _ _ _ _ _ (World.drew _)
  generalize hWD : World.drew _ = V
  have BX := Lib.hid (show Below W.heap.size W V by rw [← hWD]; exact B2.out.drew)
  have KX := Lib.hid (show KBlk V w.heap.size x by rw [← hWD]; exact X2.out)
  clear hWD
  have BW2 := Lib.hid (bel_trans B0.out BX.out)
  have RY := Lib.hid (show V.rangeAt b (off + k * 35) (lkv y) from bel_range BW2.out RY0.out hb)
  have hbV : b < V.heap.size := Nat.lt_of_lt_of_le hb BW2.out.size
  have hCD : ∀ u, Ext V u → Ext V u := fun u hu => hu
  refine region_U (D := Ext V) (Ext V) [5] (Ext.refl V) ?_
  refine anyU_takeP (i := 0) (j := 5) (v := .slice (some ⟨b, off, none⟩) n c) 35 [3, 2] rfl rfl (by kernel_rfl) (by kernel_rfl) (by kernel_rfl) (fun _ _ _ h => h) (by kernel_rfl) (Ext.stable _) hCD (yieldsU_val rfl (fun u hu => by go_simp)) ?_
  refine anyU_takeP (i := 1) (j := 5) (v := .int .i64 (k : Int)) 36 [3, 2] rfl rfl (by kernel_rfl) (by kernel_rfl) (by kernel_rfl) (fun _ _ _ h => h) (by kernel_rfl) (Ext.stable _) hCD (yieldsU_val rfl (fun u hu => by go_simp)) ?_
  refine anyU_takeP (i := 2) (j := 5) (v := .pointer (some ⟨b, off + k * 35, none⟩)) 37 [3] rfl rfl (by kernel_rfl) (by kernel_rfl) (by kernel_rfl) (fun _ _ _ h => h) (by kernel_rfl) (Ext.stable _) hCD (yieldsU_val rfl (fun u hu => by go_simp)) ?_
  refine anyU_takeP (i := 3) (j := 5) (v := .agg (lkv y).toArray) 38 [] rfl rfl (by kernel_rfl) (by kernel_rfl) (by kernel_rfl) (fun _ _ _ h => h) (by kernel_rfl) (Ext.stable _) hCD (yieldsU_of_C (yields_loadK (by rfl) (.tmp 37) rfl b (off + k * 35) rfl y hyl.out (fun u hu => bel_range hu RY.out hbV))) ?_
  refine anyU_takeP (i := 4) (j := 5) (v := .agg (lkv x).toArray) 39 [] rfl rfl (by kernel_rfl) (by kernel_rfl) (by kernel_rfl) (fun _ _ _ h => h) (by kernel_rfl) (Ext.stable _) hCD (yieldsU_of_C (yields_loadK (by rfl) (.tmp 5) rfl w.heap.size 0 rfl x hxl.out (fun u hu => (KX.out.bel hu).1.range))) ?_
  simp only [Act.put, List.setIfInBounds_toArray, List.set_cons_succ, List.set_cons_zero]
  refine anyU_tail 5 [] rfl rfl (by decide) (by kernel_rfl) ?_
  intro u hu
  simp only [Act.put, List.filterMap_cons, List.filterMap_nil, List.getElem?_cons_succ, List.getElem?_cons_zero]
  have BU := Lib.hid (bel_trans BX.out hu)
  have XU := Lib.hid (KX.out.bel hu)
  clear hu
  rw [hy] at hsb
  go_wp2_with (go_at_call 18; with_reducible refine (lsame_is y x u (Lib.hid (HYO.out.below (bel_trans B0.out BU.out))) (Lib.hid (hxW.out.below BU.out)) true hsb).mono ?_; rintro r w4 ⟨rfl, hb4⟩; have B4 := Lib.hid (bel_trans BU.out hb4); have X4 := Lib.hid (XU.out.bel hb4); clear hb4)
  go_ret
  exact ⟨rfl, bel_trans B0.out B4.out⟩
set_option maxRecDepth 100000 in
set_option maxHeartbeats 8000000 in
theorem changed_m (p : Option Addr) (n c : Nat) (ls : List Lk) (av : Int) (x : Lk) (w : World) (hs : Hid (LksV w p n c ls)) (hx : Hid (LkOk w x)) (hkey : Hid (KeysAt w)) (hfa : Hid (fewB ls = true)) (h0 : 0 < n) (h3 : x.m ≤ 300) (sa : Hid (Small ls)) (ha : Hid (IsChk ls 0)) (k : Nat) (hk : k < n) (hv0 : 0 ≤ av) (hv1 : av ≤ 255) (hm1 : Int.tmod av (n : Int) = (k : Int)) (hm2 : av % (n : Int) = (k : Int)) (hsb : Hid (samB (ls.getD k lk0) x = false)) (hbb : Hid (IsChk (ls.set k x) 80)) :
    Calls Tryd.prog 6 #[.slice p n c, .int .u8 av, .agg (lkv x).toArray] w fun r w' => r = .returned (.bool true) ∧ Below w.heap.size w w' := by
  have sx : x.bs.length ≤ 400 := by have := srcW_len hx.out.src; omega
  have sb := Lib.hid (small_set (k := k) sa.out sx)
  have hd1 : decide ((n : Int) = 0) = false := decide_eq_false (by omega)
  have hd2 : ((n : Int) == 0) = false := by simp; omega
  have hd3 : decide ((300 : Int) < (x.m : Int)) = false := decide_eq_false (by omega)
  obtain ⟨b, off, hp, hb, hr, hl⟩ := hs.out.at hk
  have HYO := Lib.hid hl
  obtain ⟨y, hy⟩ : ∃ y, ls.getD k lk0 = y := ⟨_, rfl⟩
  rw [hy] at hr HYO
  subst hp
  have hyl := Lib.hid HYO.out.len
  have RY0 := Lib.hid hr
  have HLN := Lib.hid hs.out.len
  have hn40 : n ≤ 40 := by have := sa.out.n; have := HLN.out; omega
  clear hr hl
  have hnc := hs.out.nc
  have hcm := hs.out.cm
  have hWX := Lib.hid (KBlk.box w hx.out.len)
  have B0 := Lib.hid (bel_alloc1 w (.cells (lkv x).toArray 37))
  have hsW := Lib.hid (hs.out.below B0.out)
  have hxW := Lib.hid (hx.out.below B0.out)
  have hkW := Lib.hid (hkey.out.below B0.out)
  have hxl := Lib.hid hx.out.len
  go_enter Tryd.func6, Tryd.ntmps6
  go_upto_region 1 with fail
  generalize World.alloc w _ = W at hWX B0 hsW hxW hkW ⊢
  go_upto_region 6 with (first
    | (go_at_call 8; with_reducible refine (sane08_any W hkW).mono ?_; rintro r w1 ⟨rfl, hb⟩; have B1 := Lib.hid hb; have X1 := Lib.hid (hWX.out.bel hb); obtain ⟨_, _, _, x3⟩ := X1.out.cells; clear hb)
    | (go_at_call 9; with_reducible refine (rfew_is (some ⟨b, off, none⟩) n c ls _ (Lib.hid (hsW.out.below B1.out)) true hfa).mono ?_; rintro r w' ⟨rfl, rfl⟩)
    | (go_at_call 16; with_reducible refine (ccheck_is (some ⟨b, off, none⟩) n c ls 0 w1 (Lib.hid (hsW.out.below B1.out)) sa (Lib.hid (hkW.out.below B1.out)) ha).mono ?_; rintro r w2 ⟨rfl, hb⟩; have B2 := Lib.hid (bel_trans B1.out hb); have X2 := Lib.hid (X1.out.bel hb); clear hb))
  refine wp_region_any (by kernel_rfl) ?_
  change wpAny _ _ _ _ _ _ _ (World.drew _)
  generalize hWD : World.drew _ = V
  have BX := Lib.hid (show Below W.heap.size W V by rw [← hWD]; exact B2.out.drew)
  have KX := Lib.hid (show KBlk V w.heap.size x by rw [← hWD]; exact X2.out)
  clear hWD
  have BW2 := Lib.hid (bel_trans B0.out BX.out)
  have RY := Lib.hid (show V.rangeAt b (off + k * 35) (lkv y) from bel_range BW2.out RY0.out hb)
  have hbV : b < V.heap.size := Nat.lt_of_lt_of_le hb BW2.out.size
  have hCD : ∀ u, Ext V u → Ext V u := fun u hu => hu
  refine region_U (D := Ext V) (Ext V) [5] (Ext.refl V) ?_
  refine anyU_takeP (i := 0) (j := 5) (v := .slice (some ⟨b, off, none⟩) n c) 35 [3, 2] rfl rfl (by kernel_rfl) (by kernel_rfl) (by kernel_rfl) (fun _ _ _ h => h) (by kernel_rfl) (Ext.stable _) hCD (yieldsU_val rfl (fun u hu => by go_simp)) ?_
  refine anyU_takeP (i := 1) (j := 5) (v := .int .i64 (k : Int)) 36 [3, 2] rfl rfl (by kernel_rfl) (by kernel_rfl) (by kernel_rfl) (fun _ _ _ h => h) (by kernel_rfl) (Ext.stable _) hCD (yieldsU_val rfl (fun u hu => by go_simp)) ?_
  refine anyU_takeP (i := 2) (j := 5) (v := .pointer (some ⟨b, off + k * 35, none⟩)) 37 [3] rfl rfl (by kernel_rfl) (by kernel_rfl) (by kernel_rfl) (fun _ _ _ h => h) (by kernel_rfl) (Ext.stable _) hCD (yieldsU_val rfl (fun u hu => by go_simp)) ?_
  refine anyU_takeP (i := 3) (j := 5) (v := .agg (lkv y).toArray) 38 [] rfl rfl (by kernel_rfl) (by kernel_rfl) (by kernel_rfl) (fun _ _ _ h => h) (by kernel_rfl) (Ext.stable _) hCD (yieldsU_of_C (yields_loadK (by rfl) (.tmp 37) rfl b (off + k * 35) rfl y hyl.out (fun u hu => bel_range hu RY.out hbV))) ?_
  refine anyU_takeP (i := 4) (j := 5) (v := .agg (lkv x).toArray) 39 [] rfl rfl (by kernel_rfl) (by kernel_rfl) (by kernel_rfl) (fun _ _ _ h => h) (by kernel_rfl) (Ext.stable _) hCD (yieldsU_of_C (yields_loadK (by rfl) (.tmp 5) rfl w.heap.size 0 rfl x hxl.out (fun u hu => (KX.out.bel hu).1.range))) ?_
  simp only [Act.put, List.setIfInBounds_toArray, List.set_cons_succ, List.set_cons_zero]
  refine anyU_tail 5 [] rfl rfl (by decide) (by kernel_rfl) ?_
  intro u hu
  simp only [Act.put, List.filterMap_cons, List.filterMap_nil, List.getElem?_cons_succ, List.getElem?_cons_zero]
  have BU := Lib.hid (bel_trans BX.out hu)
  have XU := Lib.hid (KX.out.bel hu)
  clear hu
  rw [hy] at hsb
  go_upto_region 8 with (go_at_call 18; with_reducible refine (lsame_is y x u (Lib.hid (HYO.out.below (bel_trans B0.out BU.out))) (Lib.hid (hxW.out.below BU.out)) false hsb).mono ?_; rintro r w4 ⟨rfl, hb4⟩; have B4 := Lib.hid (bel_trans BU.out hb4); have X4 := Lib.hid (XU.out.bel hb4); clear hb4)
  have O0 := Lib.hid (show OwnK (w4.alloc (.cells #[] 37)) w4.heap.size (.slice (some ⟨w4.heap.size, 0, none⟩) 0 0) [] from World.ownsRow_made w4 #[] 0 (Nat.le_refl _) (by unfold maxLen; omega) rfl)
  have L4 := Lib.hid (hsW.out.below (B4.out.trans (bel_alloc1 w4 (.cells #[] 37) |>.mono B4.out.size)))
  go_upto_region 9 with (at_builtin; refine appKs rfl (.tmp 41) (.tmp 42) rfl w4.heap.size (.slice (some ⟨w4.heap.size, 0, none⟩) 0 0) [] rfl O0.out (some ⟨b, off, none⟩) n c ls rfl L4.out ?c2 ?c3 ?_)
  case c2 => simp only [List.length_nil]; omega
  case c3 => rw [World.size_alloc]; omega
  intro v5 w5 ho hg
  have B5 := Lib.hid (show Below w4.heap.size w4 w5 from bel_grownK (bel_alloc1 w4 _) O0.out hg (by rw [World.size_alloc]; omega))
  obtain ⟨g, cap, hv5, hc1, hc2, hc3, hc4, hc5⟩ := OwnK.slice ho hs.out.wf (by have := HLN.out; omega)
  rw [← HLN.out] at hv5 hc1
  subst hv5
  have O5 := Lib.hid ho
  have X5 := Lib.hid (show KBlk w5 w.heap.size x from X4.out.bel B5.out)
  have hok4 := Lib.hid (show ∀ z ∈ ls, LkOk w4 z from fun z hz => (hsW.out.ok z hz).below B4.out)
  have hx4 := Lib.hid (show LkOk w4 x from hxW.out.below B4.out)
  have hml : maxLen ≤ 9223372036854775807 := by decide
  clear hg ho hc5 hc3 hc4
  go_upto_region 10 with (first
    | (refine list_loadK (by rfl) (.tmp 5) rfl w.heap.size 0 rfl x hxl.out X5.out.1.range ?_)
    | (refine list_storeKat2 rfl (.tmp 47) (.tmp 46) rfl w4 g n cap k ls x rfl rfl O5.out B5.out hok4.out hx4.out (by rw [← HLN.out]; exact hk) (by rw [← HLN.out]; omega) ?_; intro w6 hL6 hb6; rw [← HLN.out] at hL6; have L6 := Lib.hid hL6; have B6 := Lib.hid (bel_trans B4.out hb6); clear hL6 hb6))
  go_wp2_with (go_at_call 16; with_reducible refine (ccheck_is (some ⟨g, 0, none⟩) n cap (ls.set k x) 80 w6 L6 sb (Lib.hid (hkW.out.below B6.out)) hbb).mono ?_; rintro r w7 ⟨rfl, hb7⟩; have B7 := Lib.hid (bel_trans B6.out hb7); have L7 := Lib.hid (L6.out.below hb7); clear hb7)
  go_ret
  exact ⟨rfl, bel_trans B0.out B7.out⟩
set_option maxRecDepth 100000 in
set_option maxHeartbeats 8000000 in
theorem changed_l (p : Option Addr) (n c : Nat) (ls : List Lk) (av : Int) (x : Lk) (w : World) (hs : Hid (LksV w p n c ls)) (hx : Hid (LkOk w x)) (hkey : Hid (KeysAt w)) (hfa : Hid (fewB ls = true)) (h0 : 0 < n) (h3 : x.m ≤ 300) (sa : Hid (Small ls)) (ha : Hid (IsChk ls 0)) (k : Nat) (hk : k < n) (hv0 : 0 ≤ av) (hv1 : av ≤ 255) (hm1 : Int.tmod av (n : Int) = (k : Int)) (hm2 : av % (n : Int) = (k : Int)) (hsb : Hid (samB (ls.getD k lk0) x = false)) (hbb : Hid (IsChk (ls.set k x) 0)) (hkl : k + 1 = n) :
    Calls Tryd.prog 6 #[.slice p n c, .int .u8 av, .agg (lkv x).toArray] w fun r w' => r = .returned (.bool true) ∧ Below w.heap.size w w' := by
  have hd4 : decide ((k : Int) = (n : Int) - 1) = true := decide_eq_true (by omega)
  have hd5 : ((k : Int) == (n : Int) - 1) = true := by simp; omega
  have sx : x.bs.length ≤ 400 := by have := srcW_len hx.out.src; omega
  have sb := Lib.hid (small_set (k := k) sa.out sx)
  have hd1 : decide ((n : Int) = 0) = false := decide_eq_false (by omega)
  have hd2 : ((n : Int) == 0) = false := by simp; omega
  have hd3 : decide ((300 : Int) < (x.m : Int)) = false := decide_eq_false (by omega)
  obtain ⟨b, off, hp, hb, hr, hl⟩ := hs.out.at hk
  have HYO := Lib.hid hl
  obtain ⟨y, hy⟩ : ∃ y, ls.getD k lk0 = y := ⟨_, rfl⟩
  rw [hy] at hr HYO
  subst hp
  have hyl := Lib.hid HYO.out.len
  have RY0 := Lib.hid hr
  have HLN := Lib.hid hs.out.len
  have hn40 : n ≤ 40 := by have := sa.out.n; have := HLN.out; omega
  clear hr hl
  have hnc := hs.out.nc
  have hcm := hs.out.cm
  have hWX := Lib.hid (KBlk.box w hx.out.len)
  have B0 := Lib.hid (bel_alloc1 w (.cells (lkv x).toArray 37))
  have hsW := Lib.hid (hs.out.below B0.out)
  have hxW := Lib.hid (hx.out.below B0.out)
  have hkW := Lib.hid (hkey.out.below B0.out)
  have hxl := Lib.hid hx.out.len
  go_enter Tryd.func6, Tryd.ntmps6
  go_upto_region 1 with fail
  generalize World.alloc w _ = W at hWX B0 hsW hxW hkW ⊢
  go_upto_region 6 with (first
    | (go_at_call 8; with_reducible refine (sane08_any W hkW).mono ?_; rintro r w1 ⟨rfl, hb⟩; have B1 := Lib.hid hb; have X1 := Lib.hid (hWX.out.bel hb); obtain ⟨_, _, _, x3⟩ := X1.out.cells; clear hb)
    | (go_at_call 9; with_reducible refine (rfew_is (some ⟨b, off, none⟩) n c ls _ (Lib.hid (hsW.out.below B1.out)) true hfa).mono ?_; rintro r w' ⟨rfl, rfl⟩)
    | (go_at_call 16; with_reducible refine (ccheck_is (some ⟨b, off, none⟩) n c ls 0 w1 (Lib.hid (hsW.out.below B1.out)) sa (Lib.hid (hkW.out.below B1.out)) ha).mono ?_; rintro r w2 ⟨rfl, hb⟩; have B2 := Lib.hid (bel_trans B1.out hb); have X2 := Lib.hid (X1.out.bel hb); clear hb))
  refine wp_region_any (by kernel_rfl) ?_
  change wpAny _ _ _ _ _ _ _ (World.drew _)
  generalize hWD : World.drew _ = V
  have BX := Lib.hid (show Below W.heap.size W V by rw [← hWD]; exact B2.out.drew)
  have KX := Lib.hid (show KBlk V w.heap.size x by rw [← hWD]; exact X2.out)
  clear hWD
  have BW2 := Lib.hid (bel_trans B0.out BX.out)
  have RY := Lib.hid (show V.rangeAt b (off + k * 35) (lkv y) from bel_range BW2.out RY0.out hb)
  have hbV : b < V.heap.size := Nat.lt_of_lt_of_le hb BW2.out.size
  have hCD : ∀ u, Ext V u → Ext V u := fun u hu => hu
  refine region_U (D := Ext V) (Ext V) [5] (Ext.refl V) ?_
  refine anyU_takeP (i := 0) (j := 5) (v := .slice (some ⟨b, off, none⟩) n c) 35 [3, 2] rfl rfl (by kernel_rfl) (by kernel_rfl) (by kernel_rfl) (fun _ _ _ h => h) (by kernel_rfl) (Ext.stable _) hCD (yieldsU_val rfl (fun u hu => by go_simp)) ?_
  refine anyU_takeP (i := 1) (j := 5) (v := .int .i64 (k : Int)) 36 [3, 2] rfl rfl (by kernel_rfl) (by kernel_rfl) (by kernel_rfl) (fun _ _ _ h => h) (by kernel_rfl) (Ext.stable _) hCD (yieldsU_val rfl (fun u hu => by go_simp)) ?_
  refine anyU_takeP (i := 2) (j := 5) (v := .pointer (some ⟨b, off + k * 35, none⟩)) 37 [3] rfl rfl (by kernel_rfl) (by kernel_rfl) (by kernel_rfl) (fun _ _ _ h => h) (by kernel_rfl) (Ext.stable _) hCD (yieldsU_val rfl (fun u hu => by go_simp)) ?_
  refine anyU_takeP (i := 3) (j := 5) (v := .agg (lkv y).toArray) 38 [] rfl rfl (by kernel_rfl) (by kernel_rfl) (by kernel_rfl) (fun _ _ _ h => h) (by kernel_rfl) (Ext.stable _) hCD (yieldsU_of_C (yields_loadK (by rfl) (.tmp 37) rfl b (off + k * 35) rfl y hyl.out (fun u hu => bel_range hu RY.out hbV))) ?_
  refine anyU_takeP (i := 4) (j := 5) (v := .agg (lkv x).toArray) 39 [] rfl rfl (by kernel_rfl) (by kernel_rfl) (by kernel_rfl) (fun _ _ _ h => h) (by kernel_rfl) (Ext.stable _) hCD (yieldsU_of_C (yields_loadK (by rfl) (.tmp 5) rfl w.heap.size 0 rfl x hxl.out (fun u hu => (KX.out.bel hu).1.range))) ?_
  simp only [Act.put, List.setIfInBounds_toArray, List.set_cons_succ, List.set_cons_zero]
  refine anyU_tail 5 [] rfl rfl (by decide) (by kernel_rfl) ?_
  intro u hu
  simp only [Act.put, List.filterMap_cons, List.filterMap_nil, List.getElem?_cons_succ, List.getElem?_cons_zero]
  have BU := Lib.hid (bel_trans BX.out hu)
  have XU := Lib.hid (KX.out.bel hu)
  clear hu
  rw [hy] at hsb
  go_upto_region 8 with (go_at_call 18; with_reducible refine (lsame_is y x u (Lib.hid (HYO.out.below (bel_trans B0.out BU.out))) (Lib.hid (hxW.out.below BU.out)) false hsb).mono ?_; rintro r w4 ⟨rfl, hb4⟩; have B4 := Lib.hid (bel_trans BU.out hb4); have X4 := Lib.hid (XU.out.bel hb4); clear hb4)
  have O0 := Lib.hid (show OwnK (w4.alloc (.cells #[] 37)) w4.heap.size (.slice (some ⟨w4.heap.size, 0, none⟩) 0 0) [] from World.ownsRow_made w4 #[] 0 (Nat.le_refl _) (by unfold maxLen; omega) rfl)
  have L4 := Lib.hid (hsW.out.below (B4.out.trans (bel_alloc1 w4 (.cells #[] 37) |>.mono B4.out.size)))
  go_upto_region 9 with (at_builtin; refine appKs rfl (.tmp 41) (.tmp 42) rfl w4.heap.size (.slice (some ⟨w4.heap.size, 0, none⟩) 0 0) [] rfl O0.out (some ⟨b, off, none⟩) n c ls rfl L4.out ?c2 ?c3 ?_)
  case c2 => simp only [List.length_nil]; omega
  case c3 => rw [World.size_alloc]; omega
  intro v5 w5 ho hg
  have B5 := Lib.hid (show Below w4.heap.size w4 w5 from bel_grownK (bel_alloc1 w4 _) O0.out hg (by rw [World.size_alloc]; omega))
  obtain ⟨g, cap, hv5, hc1, hc2, hc3, hc4, hc5⟩ := OwnK.slice ho hs.out.wf (by have := HLN.out; omega)
  rw [← HLN.out] at hv5 hc1
  subst hv5
  have O5 := Lib.hid ho
  have X5 := Lib.hid (show KBlk w5 w.heap.size x from X4.out.bel B5.out)
  have hok4 := Lib.hid (show ∀ z ∈ ls, LkOk w4 z from fun z hz => (hsW.out.ok z hz).below B4.out)
  have hx4 := Lib.hid (show LkOk w4 x from hxW.out.below B4.out)
  have hml : maxLen ≤ 9223372036854775807 := by decide
  clear hg ho hc5 hc3 hc4
  go_upto_region 10 with (first
    | (refine list_loadK (by rfl) (.tmp 5) rfl w.heap.size 0 rfl x hxl.out X5.out.1.range ?_)
    | (refine list_storeKat2 rfl (.tmp 47) (.tmp 46) rfl w4 g n cap k ls x rfl rfl O5.out B5.out hok4.out hx4.out (by rw [← HLN.out]; exact hk) (by rw [← HLN.out]; omega) ?_; intro w6 hL6 hb6; rw [← HLN.out] at hL6; have L6 := Lib.hid hL6; have B6 := Lib.hid (bel_trans B4.out hb6); clear hL6 hb6))
  go_wp2_with (go_at_call 16; with_reducible refine (ccheck_is (some ⟨g, 0, none⟩) n cap (ls.set k x) 0 w6 L6 sb (Lib.hid (hkW.out.below B6.out)) hbb).mono ?_; rintro r w7 ⟨rfl, hb7⟩; have B7 := Lib.hid (bel_trans B6.out hb7); have L7 := Lib.hid (L6.out.below hb7); clear hb7)
  go_ret
  exact ⟨rfl, bel_trans B0.out B7.out⟩
set_option maxRecDepth 100000 in
set_option maxHeartbeats 8000000 in
theorem changed_h (p : Option Addr) (n c : Nat) (ls : List Lk) (av : Int) (x : Lk) (w : World) (hs : Hid (LksV w p n c ls)) (hx : Hid (LkOk w x)) (hkey : Hid (KeysAt w)) (hfa : Hid (fewB ls = true)) (h0 : 0 < n) (h3 : x.m ≤ 300) (sa : Hid (Small ls)) (ha : Hid (IsChk ls 0)) (k : Nat) (hk : k < n) (hv0 : 0 ≤ av) (hv1 : av ≤ 255) (hm1 : Int.tmod av (n : Int) = (k : Int)) (hm2 : av % (n : Int) = (k : Int)) (hsb : Hid (samB (ls.getD k lk0) x = false)) (hbb : Hid (IsChk (ls.set k x) 0)) (hkl : k + 1 < n) (hT : Hid (¬ lkT ((ls.take (k + 1)).getD k lk0) = lkT (((ls.set k x).take (k + 1)).getD k lk0))) (da : List Int) (hda : Hid (IsHead (ls.take (k + 1)) da)) (hdb : Hid (IsHead ((ls.set k x).take (k + 1)) da)) :
    Calls Tryd.prog 6 #[.slice p n c, .int .u8 av, .agg (lkv x).toArray] w fun r w' => r = .returned (.bool true) ∧ Below w.heap.size w w' := by
  have hd4 : decide ((k : Int) = (n : Int) - 1) = false := decide_eq_false (by omega)
  have hd5 : ((k : Int) == (n : Int) - 1) = false := by simp; omega
  have sx : x.bs.length ≤ 400 := by have := srcW_len hx.out.src; omega
  have sb := Lib.hid (small_set (k := k) sa.out sx)
  have hd1 : decide ((n : Int) = 0) = false := decide_eq_false (by omega)
  have hd2 : ((n : Int) == 0) = false := by simp; omega
  have hd3 : decide ((300 : Int) < (x.m : Int)) = false := decide_eq_false (by omega)
  obtain ⟨b, off, hp, hb, hr, hl⟩ := hs.out.at hk
  have HYO := Lib.hid hl
  obtain ⟨y, hy⟩ : ∃ y, ls.getD k lk0 = y := ⟨_, rfl⟩
  rw [hy] at hr HYO
  subst hp
  have hyl := Lib.hid HYO.out.len
  have RY0 := Lib.hid hr
  have HLN := Lib.hid hs.out.len
  have hn40 : n ≤ 40 := by have := sa.out.n; have := HLN.out; omega
  clear hr hl
  have hnc := hs.out.nc
  have hcm := hs.out.cm
  have hWX := Lib.hid (KBlk.box w hx.out.len)
  have B0 := Lib.hid (bel_alloc1 w (.cells (lkv x).toArray 37))
  have hsW := Lib.hid (hs.out.below B0.out)
  have hxW := Lib.hid (hx.out.below B0.out)
  have hkW := Lib.hid (hkey.out.below B0.out)
  have hxl := Lib.hid hx.out.len
  go_enter Tryd.func6, Tryd.ntmps6
  go_upto_region 1 with fail
  generalize World.alloc w _ = W at hWX B0 hsW hxW hkW ⊢
  go_upto_region 6 with (first
    | (go_at_call 8; with_reducible refine (sane08_any W hkW).mono ?_; rintro r w1 ⟨rfl, hb⟩; have B1 := Lib.hid hb; have X1 := Lib.hid (hWX.out.bel hb); obtain ⟨_, _, _, x3⟩ := X1.out.cells; clear hb)
    | (go_at_call 9; with_reducible refine (rfew_is (some ⟨b, off, none⟩) n c ls _ (Lib.hid (hsW.out.below B1.out)) true hfa).mono ?_; rintro r w' ⟨rfl, rfl⟩)
    | (go_at_call 16; with_reducible refine (ccheck_is (some ⟨b, off, none⟩) n c ls 0 w1 (Lib.hid (hsW.out.below B1.out)) sa (Lib.hid (hkW.out.below B1.out)) ha).mono ?_; rintro r w2 ⟨rfl, hb⟩; have B2 := Lib.hid (bel_trans B1.out hb); have X2 := Lib.hid (X1.out.bel hb); clear hb))
  refine wp_region_any (by kernel_rfl) ?_
  change wpAny _ _ _ _ _ _ _ (World.drew _)
  generalize hWD : World.drew _ = V
  have BX := Lib.hid (show Below W.heap.size W V by rw [← hWD]; exact B2.out.drew)
  have KX := Lib.hid (show KBlk V w.heap.size x by rw [← hWD]; exact X2.out)
  clear hWD
  have BW2 := Lib.hid (bel_trans B0.out BX.out)
  have RY := Lib.hid (show V.rangeAt b (off + k * 35) (lkv y) from bel_range BW2.out RY0.out hb)
  have hbV : b < V.heap.size := Nat.lt_of_lt_of_le hb BW2.out.size
  have hCD : ∀ u, Ext V u → Ext V u := fun u hu => hu
  refine region_U (D := Ext V) (Ext V) [5] (Ext.refl V) ?_
  refine anyU_takeP (i := 0) (j := 5) (v := .slice (some ⟨b, off, none⟩) n c) 35 [3, 2] rfl rfl (by kernel_rfl) (by kernel_rfl) (by kernel_rfl) (fun _ _ _ h => h) (by kernel_rfl) (Ext.stable _) hCD (yieldsU_val rfl (fun u hu => by go_simp)) ?_
  refine anyU_takeP (i := 1) (j := 5) (v := .int .i64 (k : Int)) 36 [3, 2] rfl rfl (by kernel_rfl) (by kernel_rfl) (by kernel_rfl) (fun _ _ _ h => h) (by kernel_rfl) (Ext.stable _) hCD (yieldsU_val rfl (fun u hu => by go_simp)) ?_
  refine anyU_takeP (i := 2) (j := 5) (v := .pointer (some ⟨b, off + k * 35, none⟩)) 37 [3] rfl rfl (by kernel_rfl) (by kernel_rfl) (by kernel_rfl) (fun _ _ _ h => h) (by kernel_rfl) (Ext.stable _) hCD (yieldsU_val rfl (fun u hu => by go_simp)) ?_
  refine anyU_takeP (i := 3) (j := 5) (v := .agg (lkv y).toArray) 38 [] rfl rfl (by kernel_rfl) (by kernel_rfl) (by kernel_rfl) (fun _ _ _ h => h) (by kernel_rfl) (Ext.stable _) hCD (yieldsU_of_C (yields_loadK (by rfl) (.tmp 37) rfl b (off + k * 35) rfl y hyl.out (fun u hu => bel_range hu RY.out hbV))) ?_
  refine anyU_takeP (i := 4) (j := 5) (v := .agg (lkv x).toArray) 39 [] rfl rfl (by kernel_rfl) (by kernel_rfl) (by kernel_rfl) (fun _ _ _ h => h) (by kernel_rfl) (Ext.stable _) hCD (yieldsU_of_C (yields_loadK (by rfl) (.tmp 5) rfl w.heap.size 0 rfl x hxl.out (fun u hu => (KX.out.bel hu).1.range))) ?_
  simp only [Act.put, List.setIfInBounds_toArray, List.set_cons_succ, List.set_cons_zero]
  refine anyU_tail 5 [] rfl rfl (by decide) (by kernel_rfl) ?_
  intro u hu
  simp only [Act.put, List.filterMap_cons, List.filterMap_nil, List.getElem?_cons_succ, List.getElem?_cons_zero]
  have BU := Lib.hid (bel_trans BX.out hu)
  have XU := Lib.hid (KX.out.bel hu)
  clear hu
  rw [hy] at hsb
  go_upto_region 8 with (go_at_call 18; with_reducible refine (lsame_is y x u (Lib.hid (HYO.out.below (bel_trans B0.out BU.out))) (Lib.hid (hxW.out.below BU.out)) false hsb).mono ?_; rintro r w4 ⟨rfl, hb4⟩; have B4 := Lib.hid (bel_trans BU.out hb4); have X4 := Lib.hid (XU.out.bel hb4); clear hb4)
  have O0 := Lib.hid (show OwnK (w4.alloc (.cells #[] 37)) w4.heap.size (.slice (some ⟨w4.heap.size, 0, none⟩) 0 0) [] from World.ownsRow_made w4 #[] 0 (Nat.le_refl _) (by unfold maxLen; omega) rfl)
  have L4 := Lib.hid (hsW.out.below (B4.out.trans (bel_alloc1 w4 (.cells #[] 37) |>.mono B4.out.size)))
  go_upto_region 9 with (at_builtin; refine appKs rfl (.tmp 41) (.tmp 42) rfl w4.heap.size (.slice (some ⟨w4.heap.size, 0, none⟩) 0 0) [] rfl O0.out (some ⟨b, off, none⟩) n c ls rfl L4.out ?c2 ?c3 ?_)
  case c2 => simp only [List.length_nil]; omega
  case c3 => rw [World.size_alloc]; omega
  intro v5 w5 ho hg
  have B5 := Lib.hid (show Below w4.heap.size w4 w5 from bel_grownK (bel_alloc1 w4 _) O0.out hg (by rw [World.size_alloc]; omega))
  obtain ⟨g, cap, hv5, hc1, hc2, hc3, hc4, hc5⟩ := OwnK.slice ho hs.out.wf (by have := HLN.out; omega)
  rw [← HLN.out] at hv5 hc1
  subst hv5
  have O5 := Lib.hid ho
  have X5 := Lib.hid (show KBlk w5 w.heap.size x from X4.out.bel B5.out)
  have hok4 := Lib.hid (show ∀ z ∈ ls, LkOk w4 z from fun z hz => (hsW.out.ok z hz).below B4.out)
  have hx4 := Lib.hid (show LkOk w4 x from hxW.out.below B4.out)
  have hml : maxLen ≤ 9223372036854775807 := by decide
  clear hg ho hc5 hc3 hc4
  go_upto_region 10 with (first
    | (refine list_loadK (by rfl) (.tmp 5) rfl w.heap.size 0 rfl x hxl.out X5.out.1.range ?_)
    | (refine list_storeKat2 rfl (.tmp 47) (.tmp 46) rfl w4 g n cap k ls x rfl rfl O5.out B5.out hok4.out hx4.out (by rw [← HLN.out]; exact hk) (by rw [← HLN.out]; omega) ?_; intro w6 hL6 hb6; rw [← HLN.out] at hL6; have L6 := Lib.hid hL6; have B6 := Lib.hid (bel_trans B4.out hb6); clear hL6 hb6))
  go_upto_region 12 with (go_at_call 16; with_reducible refine (ccheck_is (some ⟨g, 0, none⟩) n cap (ls.set k x) 0 w6 L6 sb (Lib.hid (hkW.out.below B6.out)) hbb).mono ?_; rintro r w7 ⟨rfl, hb7⟩; have B7 := Lib.hid (bel_trans B6.out hb7); have L7 := Lib.hid (L6.out.below hb7); clear hb7)
  refine wp_region_any (by kernel_rfl) ?_
  change wpAny _ _ _ _ _ _ _ (World.drew _)
  generalize hWD : World.drew _ = V2
  have BV := Lib.hid (show Below W.heap.size W V2 by rw [← hWD]; exact B7.out.drew)
  have LV := Lib.hid (show LksV V2 (some ⟨g, 0, none⟩) n cap (ls.set k x) by rw [← hWD]; exact L7.out.below (Below.refl _ _).drew)
  clear hWD
  obtain ⟨j, hj⟩ : ∃ j, k + 1 = j := ⟨_, rfl⟩
  have hwr : IntKind.i64.wrap ((k : Int) + 1) = (j : Int) := by rw [IntKind.wrap_i64]; omega
  have hjn : j ≤ n := by omega
  have hjc : j ≤ c := by omega
  have hjp : j ≤ cap := by omega
  rw [hj] at hT hda hdb
  have HJ := Lib.hid hj.symm
  clear hj hkl
  have hCD2 : ∀ u, Ext V2 u → Ext V2 u := fun u hu => hu
  refine region_U (D := Ext V2) (Ext V2) [8] (Ext.refl V2) ?_
  refine anyU_takeP (i := 0) (j := 8) (v := .slice (some ⟨b, off, none⟩) n c) 58 [3] rfl rfl (by kernel_rfl) (by kernel_rfl) (by kernel_rfl) (fun _ _ _ h => h) (by kernel_rfl) (Ext.stable _) hCD2 (yieldsU_val rfl (fun u hu => by go_simp)) ?_
  refine anyU_takeP (i := 1) (j := 8) (v := .int .i64 (k : Int)) 59 [3, 2] rfl rfl (by kernel_rfl) (by kernel_rfl) (by kernel_rfl) (fun _ _ _ h => h) (by kernel_rfl) (Ext.stable _) hCD2 (yieldsU_val rfl (fun u hu => by go_simp)) ?_
  refine anyU_takeP (i := 2) (j := 8) (v := .int .i64 (j : Int)) 60 [3] rfl rfl (by kernel_rfl) (by kernel_rfl) (by kernel_rfl) (fun _ _ _ h => h) (by kernel_rfl) (Ext.stable _) hCD2 (yieldsU_val rfl (fun u hu => by go_simp)) ?_
  refine anyU_takeP (i := 3) (j := 8) (v := .slice (some ⟨b, off, none⟩) j c) 61 [] rfl rfl (by kernel_rfl) (by kernel_rfl) (by kernel_rfl) (fun _ _ _ h => h) (by kernel_rfl) (Ext.stable _) hCD2 (yieldsU_val rfl (fun u hu => by go_simp)) ?_
  simp only [Act.put, List.setIfInBounds_toArray, List.set_cons_succ, List.set_cons_zero]
  refine anyU_takeP (i := 4) (j := 8) (v := .slice (some ⟨g, 0, none⟩) n cap) 62 [7] rfl rfl (by kernel_rfl) (by kernel_rfl) (by kernel_rfl) (fun _ _ _ h => h) (by kernel_rfl) (Ext.stable _) hCD2 (yieldsU_val rfl (fun u hu => by go_simp)) ?_
  refine anyU_takeP (i := 5) (j := 8) (v := .int .i64 (k : Int)) 63 [7, 6] rfl rfl (by kernel_rfl) (by kernel_rfl) (by kernel_rfl) (fun _ _ _ h => h) (by kernel_rfl) (Ext.stable _) hCD2 (yieldsU_val rfl (fun u hu => by go_simp)) ?_
  refine anyU_takeP (i := 6) (j := 8) (v := .int .i64 (j : Int)) 64 [7] rfl rfl (by kernel_rfl) (by kernel_rfl) (by kernel_rfl) (fun _ _ _ h => h) (by kernel_rfl) (Ext.stable _) hCD2 (yieldsU_val rfl (fun u hu => by go_simp)) ?_
  refine anyU_takeP (i := 7) (j := 8) (v := .slice (some ⟨g, 0, none⟩) j cap) 65 [] rfl rfl (by kernel_rfl) (by kernel_rfl) (by kernel_rfl) (fun _ _ _ h => h) (by kernel_rfl) (Ext.stable _) hCD2 (yieldsU_val rfl (fun u hu => by go_simp)) ?_
  simp only [Act.put, List.setIfInBounds_toArray, List.set_cons_succ, List.set_cons_zero]
  refine anyU_tail 8 [9] rfl rfl (by decide) (by kernel_rfl) ?_
  intro z hz
  simp only [Act.put, List.filterMap_cons, List.filterMap_nil, List.getElem?_cons_succ, List.getElem?_cons_zero]
  have BZ := Lib.hid (bel_trans BV.out hz)
  have LZ := Lib.hid (LV.out.below hz)
  clear hz
  go_wp2_with (go_at_call 17; with_reducible refine (clash_hit (some ⟨b, off, none⟩) (some ⟨g, 0, none⟩) j c cap k (ls.take j) ((ls.set k x).take j) z (Lib.hid ((hsW.out.below BZ.out).take hjn)) (Lib.hid (LZ.out.take hjn)) (Lib.hid (hkW.out.below BZ.out)) (Lib.hid (sa.out.take _)) (Lib.hid (sb.out.take _)) HJ.out hT da hda hdb).mono ?_; rintro r w8 ⟨rfl, hb8⟩; have B8 := Lib.hid (bel_trans BZ.out hb8); clear hb8)
  go_ret
  exact ⟨rfl, bel_trans B0.out B8.out⟩
theorem changed_walk (p : Option Addr) (n c : Nat) (ls : List Lk) (av : Int) (x : Lk) (w : World) (hs : Hid (LksV w p n c ls)) (hx : Hid (LkOk w x)) (hkey : Hid (KeysAt w)) (hv0 : 0 ≤ av) (hv1 : av ≤ 255) :
    Calls Tryd.prog 6 #[.slice p n c, .int .u8 av, .agg (lkv x).toArray] w fun r w' => r = .returned (.bool true) ∧ Below w.heap.size w w' := by
  cases hfa : fewB ls with
  | false => exact changed_f0 p n c ls av x w hs hx hkey (Lib.hid hfa)
  | true =>
    have FA := Lib.hid hfa
    have sa := Lib.hid (few_small hfa)
    have hl := hs.out.len
    by_cases h0 : n = 0
    · exact changed_e p n c ls av x w hs hx hkey FA (Lib.hid h0)
    have h0 : 0 < n := by omega
    by_cases h3 : 300 < x.m
    · exact changed_b p n c ls av x w hs hx hkey FA h0 h3
    have h3 : x.m ≤ 300 := by omega
    obtain ⟨ea, ha⟩ := isChk ls
    rcases ha.two with rfl | rfl
    case inr => exact changed_c p n c ls av x w hs hx hkey FA h0 h3 sa (Lib.hid ha)
    obtain ⟨a, rfl⟩ : ∃ a : Nat, av = (a : Int) := ⟨av.toNat, by omega⟩
    obtain ⟨k, hk0⟩ : ∃ k, a % n = k := ⟨_, rfl⟩
    have hk : k < n := by rw [← hk0]; exact Nat.mod_lt _ h0
    have hm2 : (a : Int) % (n : Int) = (k : Int) := by rw [← hk0]; rfl
    have hm1 : Int.tmod (a : Int) (n : Int) = (k : Int) := by rw [← hk0]; rfl
    cases hsb : samB (ls.getD k lk0) x with
    | true => exact changed_s p n c ls a x w hs hx hkey FA h0 h3 sa (Lib.hid ha) k hk hv0 hv1 hm1 hm2 (Lib.hid hsb)
    | false =>
      obtain ⟨eb, hb⟩ := isChk (ls.set k x)
      rcases hb.two with rfl | rfl
      case inr => exact changed_m p n c ls a x w hs hx hkey FA h0 h3 sa (Lib.hid ha) k hk hv0 hv1 hm1 hm2 (Lib.hid hsb) (Lib.hid hb)
      by_cases hkl : k + 1 = n
      · exact changed_l p n c ls a x w hs hx hkey FA h0 h3 sa (Lib.hid ha) k hk hv0 hv1 hm1 hm2 (Lib.hid hsb) (Lib.hid hb) hkl
      · have sx : x.bs.length ≤ 400 := by have := srcW_len hx.out.src; omega
        have hC := clash_set (chk_all ha) (chk_all hb) sa.out sx (by omega) hsb
        exact changed_h p n c ls a x w hs hx hkey FA h0 h3 sa (Lib.hid ha) k hk hv0 hv1 hm1 hm2 (Lib.hid hsb) (Lib.hid hb) (by omega) (Lib.hid hC.1) _ (Lib.hid (headOf_is _)) (Lib.hid (by rw [hC.2]; exact headOf_is _))

namespace chainChanged
theorem readable : ∀ t ∈ Tryd.f6.params.toList, Tryd.prog.readableRec t = true ∧ t < Tryd.prog.types.size := by
  rw [Tryd.params6]
  intro t ht
  simp only [List.mem_cons, List.not_mem_nil, or_false] at ht
  rcases ht with rfl | rfl | rfl
  all_goals exact ⟨by kernel_rfl, by decide +kernel⟩

set_option maxRecDepth 100000 in
theorem lifted (os : Os) (started : os.Started) (H : Type) (enc : TypeId × Value → H) :
    ReturnsInHanded {} Tryd.checked os 6 .any (fun w args => (Rows.chainChangedSpec.pre enc Tryd.prog Tryd.f6 [] false w args ∧ laidMetH Tryd.prog laidK w) ∧ sizedMet enc Tryd.prog Tryd.f6 (OpenSpec.ofChange Rows.chainChangedSpec) false w args)
      (Rows.chainChangedSpec.post enc Tryd.prog Tryd.f6 false true false false) := by
  refine returnsInHanded_of_change_and (C := Tryd.checked) (X := fun w _ => laidMetH Tryd.prog laidK w) (fun _ _ _ hh h => h.of_heap hh) own_knob started (by kernel_rfl) Tryd.func6
    (ChangeSpec.witness_shaped (enc := enc) (C := Tryd.checked) (os := os) (X := fun w _ => laidMetH Tryd.prog laidK w) false (World.doorLaid Tryd.prog 400 os) #[.slice none 0 0, .int .u8 0, .agg (lkv lk0).toArray] 8 rfl (World.shaped_of_RefB (by kernel_rfl) (by kernel_rfl)) (by kernel_rfl) (by kernel_rfl) (by kernel_rfl) (door_met os _)) ?_
  intro W base args ds gs before hval0 hW _ _ hL _
  have hval : ∀ (j : Nat) t v, Tryd.f6.params[j]? = some t → args[j]? = some v → Value.okWide Tryd.prog W .any base t v := hval0
  have hW' := hW
  obtain ⟨p, q, hA0, hV, rfl, hfz, hnd⟩ := hW
  have hA : DataW.TrodAll enc Tryd.prog W 0 (fun _ => true) true Tryd.f6.params.toList args.toList ds p := hA0
  rw [Tryd.params6] at hA hval
  obtain ⟨v0, vs0, d0, ds0, p0, q0, hargs, rfl, rfl, h0, r0⟩ := trodAll_cons hA
  obtain ⟨v1, vs1, d1, ds1, p1, q1, rfl, rfl, rfl, h1, r1⟩ := trodAll_cons r0
  obtain ⟨v2, vs2, d2, ds2, p2, q2, rfl, rfl, rfl, h2, r2⟩ := trodAll_cons r1
  obtain ⟨rfl, rfl, rfl⟩ := trodAll_nil r2
  obtain rfl : args = #[v0, v1, v2] := by cases args; simp_all
  obtain ⟨rfl, rfl⟩ := trodVars_none hV
  obtain ⟨s0, n0, c0, l0, rfl, w0⟩ := open_links (hval 0 22 v0 rfl rfl) h0
  obtain ⟨a1, rfl, w1, x1⟩ := open_u8 Tryd.underlying5 (hval 1 5 v1 rfl rfl) h1
  obtain ⟨l2, rfl, w2⟩ := open_link (hval 2 37 v2 rfl rfl) h2
  have hK := of_laid hL
  clear hA0 hval0
  refine (changed_walk s0 n0 c0 l0 a1 l2 W (Lib.hid w0) (Lib.hid w2) (Lib.hid hK) w1 x1).mono fun e W' ⟨he, hb⟩ => ?_
  subst he
  exact ⟨_, rfl, law_post laid_out readable rfl rfl Tryd.underlying4 hW' rfl rfl rfl hb⟩

theorem over : Rows.chainChangedRow.holds Tryd.pinned (OpenSpec.ofChange Rows.chainChangedSpec) :=
  OpenClaim.holds_of_wide 6 Tryd.f6 rfl rfl rfl rfl rfl rfl rfl ⟨rfl, rfl, rfl, rfl, rfl⟩ rfl rfl rfl rfl rfl (by kernel_rfl) Tryd.func6 (by kernel_rfl)
    (of_decide_eq_true (by kernel_rfl)) (by unfold Func.isWrapper; first | (rw [if_pos (by decide +kernel)]; kernel_rfl) | (rw [if_neg (by decide +kernel)]; exact ⟨rfl, rfl⟩))
    (fun os started H enc _ => lifted os started H enc)

/-- the statement: the tied card -/
theorem proved : Rows.ChainChangedCardSaid :=
  Claim7.holds_tied_plain_at .later [] [.data] true (true, "40284c324d3d6a13069895ce4ab99fdefbc2f5f94b227550a7a899fa5adc4483") false
    over (fun _ h => by cases h) (by kernel_rfl) (fun _ h => by cases h) chainChanged_row_tie rfl ⟨rfl, rfl⟩ (by kernel_rfl) rfl
    (fun f fn hf hfn => by
      obtain rfl : f = 6 := Option.some.inj ((show Tryd.prog.funcNamed "franking/frankinglaw08.ChainChanged" = some 6 by kernel_rfl).symm.trans hf) |>.symm
      obtain rfl : fn = Tryd.f6 := (Option.some.inj (Tryd.func6.symm.trans hfn)).symm
      exact ⟨by kernel_rfl, fun j t ht => by
        rw [Tryd.params6] at ht
        have hm : t ∈ [22, 5, 37] := by simpa using Array.mem_of_getElem? ht
        have hall : ([22, 5, 37].all fun u => !Tryd.prog.wantsStandIn u) = true := by kernel_rfl
        exact (show Tryd.prog.wantsStandIn t = false by simpa using List.all_eq_true.1 hall t hm)⟩)
    (by kernel_rfl)
end chainChanged
end Go.Proofs.YtllcgehfmkmcdaaDoor
