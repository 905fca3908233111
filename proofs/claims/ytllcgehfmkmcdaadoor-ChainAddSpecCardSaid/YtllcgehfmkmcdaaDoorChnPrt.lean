/- Package chain: bytes.Equal; whether two links differ; the first place at which two lists do. -/
import Derived.Test.YtllcgehfmkmcdaaDoorChnChk
import Derived.Test.YtllcgehfmkmcdaaDoorChnOwn
import Derived.Laws.Strings
namespace Go.Proofs.YtllcgehfmkmcdaaDoor
open Go.RowKit
set_option linter.unusedVariables false
set_option linter.unusedSimpArgs false

theorem ba_ne {s u : ByteArray} (h : s ≠ u) : (s.toList == u.toList) = false := by
  rw [ByteArray.toList_eq, ByteArray.toList_eq]
  exact beq_false_of_ne (fun e => h (ByteArray.ext (Array.toList_inj.1 e)))
theorem strB_ne {xs ys : List Int} (hx : ∀ z ∈ xs, 0 ≤ z ∧ z ≤ 255) (hy : ∀ z ∈ ys, 0 ≤ z ∧ z ≤ 255) (h : xs ≠ ys) : strB xs ≠ strB ys := fun e => h (by
  have := congrArg strL e
  rwa [strL_strB hx, strL_strB hy] at this)
theorem bequal_same (p q : Option Addr) (m c n d : Nat) (xs : List Int) (w : World) (hx : Hid (SrcW w p m c xs)) (hy : Hid (SrcW w q n d xs)) :
    Calls Tryd.prog 27 #[.slice p m c, .slice q n d] w fun e w' => e = .returned (.bool true) ∧ w = w' := by
  have h1 := conv_srcW hx.out
  have h2 := conv_srcW hy.out
  obtain ⟨s, hs⟩ : ∃ s, strB xs = s := ⟨_, rfl⟩
  rw [hs] at h1 h2
  clear hs
  go_enter Tryd.func27, Tryd.ntmps27
  go_wp2_with fail
  go_ret
  exact ⟨rfl, rfl⟩
theorem bequal_diff (p q : Option Addr) (m c n d : Nat) (xs ys : List Int) (w : World) (hx : Hid (SrcW w p m c xs)) (hy : Hid (SrcW w q n d ys)) (rx : Hid (∀ z ∈ xs, 0 ≤ z ∧ z ≤ 255)) (ry : Hid (∀ z ∈ ys, 0 ≤ z ∧ z ≤ 255)) (h : Hid (xs ≠ ys)) :
    Calls Tryd.prog 27 #[.slice p m c, .slice q n d] w fun e w' => e = .returned (.bool false) ∧ w = w' := by
  have h1 := conv_srcW hx.out
  have h2 := conv_srcW hy.out
  have hne := strB_ne rx.out ry.out h.out
  obtain ⟨s, hs⟩ : ∃ s, strB xs = s := ⟨_, rfl⟩
  obtain ⟨u, hu⟩ : ∃ u, strB ys = u := ⟨_, rfl⟩
  rw [hs] at h1 hne
  rw [hu] at h2 hne
  have hq1 : decide (s = u) = false := decide_eq_false hne
  have hq2 := ba_ne hne
  clear hs hu
  go_enter Tryd.func27, Tryd.ntmps27
  go_wp2_with fail
  go_ret
  exact ⟨rfl, rfl⟩
/-- two links say the same -/
def samB (x y : Lk) : Bool := (x.node == y.node) && (x.no == y.no) && (x.prev == y.prev) && (x.bs == y.bs)
theorem samB_iff {x y : Lk} : samB x y = true ↔ x.same y := by
  unfold samB Lk.same
  simp [and_assoc]
set_option maxRecDepth 100000 in
set_option maxHeartbeats 2000000 in
theorem pdiff_node (x y : Lk) (w : World) (hx : Hid (LkOk w x)) (hy : Hid (LkOk w y)) (hnode : Hid (¬ x.node = y.node)) :
    Calls Tryd.prog 26 #[.agg (lkv x).toArray, .agg (lkv y).toArray] w fun e w' => e = .returned (.bool true) ∧ Below w.heap.size w w' := by
  have X0 := Lib.hid (show KBlk ((w.alloc (.cells (lkv x).toArray 37)).alloc (.cells (lkv y).toArray 37)) w.heap.size x from (KBlk.box w hx.out.len).alloc _)
  have Y0 := Lib.hid (show KBlk ((w.alloc (.cells (lkv x).toArray 37)).alloc (.cells (lkv y).toArray 37)) (w.heap.size + 1) y by
    have h := KBlk.box (w.alloc (.cells (lkv x).toArray 37)) hy.out.len
    simp only [World.size_alloc] at h
    exact h)
  have B0 := Lib.hid (show Below w.heap.size w ((w.alloc (.cells (lkv x).toArray 37)).alloc (.cells (lkv y).toArray 37)) from (bel_alloc1 w _).alloc (by simp) _)
  go_enter Tryd.func26, Tryd.ntmps26
  go_upto_region 1 with fail
  generalize World.alloc (World.alloc w _) _ = W at X0 Y0 B0 ⊢
  obtain ⟨x0, x1, x2, x3⟩ := X0.out.cells
  obtain ⟨y0, y1, y2, y3⟩ := Y0.out.cells
  have hlx := Lib.hid X0.out.2
  have hly := Lib.hid Y0.out.2
  have X2 := Lib.hid x2
  have Y2 := Lib.hid y2
  clear x2 y2
  have hd1 : decide (x.node = y.node) = false := decide_eq_false hnode.out
  have hd2 : (x.node == y.node) = false := by simpa using hnode.out
  go_wp2_with fail
  go_ret
  exact ⟨rfl, B0.out⟩
set_option maxRecDepth 100000 in
set_option maxHeartbeats 2000000 in
theorem pdiff_no (x y : Lk) (w : World) (hx : Hid (LkOk w x)) (hy : Hid (LkOk w y)) (hnode : Hid (x.node = y.node)) (hno : Hid (¬ x.no = y.no)) :
    Calls Tryd.prog 26 #[.agg (lkv x).toArray, .agg (lkv y).toArray] w fun e w' => e = .returned (.bool true) ∧ Below w.heap.size w w' := by
  have X0 := Lib.hid (show KBlk ((w.alloc (.cells (lkv x).toArray 37)).alloc (.cells (lkv y).toArray 37)) w.heap.size x from (KBlk.box w hx.out.len).alloc _)
  have Y0 := Lib.hid (show KBlk ((w.alloc (.cells (lkv x).toArray 37)).alloc (.cells (lkv y).toArray 37)) (w.heap.size + 1) y by
    have h := KBlk.box (w.alloc (.cells (lkv x).toArray 37)) hy.out.len
    simp only [World.size_alloc] at h
    exact h)
  have B0 := Lib.hid (show Below w.heap.size w ((w.alloc (.cells (lkv x).toArray 37)).alloc (.cells (lkv y).toArray 37)) from (bel_alloc1 w _).alloc (by simp) _)
  go_enter Tryd.func26, Tryd.ntmps26
  go_upto_region 1 with fail
  generalize World.alloc (World.alloc w _) _ = W at X0 Y0 B0 ⊢
  obtain ⟨x0, x1, x2, x3⟩ := X0.out.cells
  obtain ⟨y0, y1, y2, y3⟩ := Y0.out.cells
  have hlx := Lib.hid X0.out.2
  have hly := Lib.hid Y0.out.2
  have X2 := Lib.hid x2
  have Y2 := Lib.hid y2
  clear x2 y2
  rw [← hnode.out] at y0
  have hd1 : decide (x.no = y.no) = false := decide_eq_false hno.out
  have hd2 : (x.no == y.no) = false := by simpa using hno.out
  go_wp2_with fail
  go_ret
  exact ⟨rfl, B0.out⟩
set_option maxRecDepth 100000 in
set_option maxHeartbeats 2000000 in
theorem pdiff_prev (x y : Lk) (w : World) (hx : Hid (LkOk w x)) (hy : Hid (LkOk w y)) (hnode : Hid (x.node = y.node)) (hno : Hid (x.no = y.no)) (hprev : Hid (¬ x.prev = y.prev)) :
    Calls Tryd.prog 26 #[.agg (lkv x).toArray, .agg (lkv y).toArray] w fun e w' => e = .returned (.bool true) ∧ Below w.heap.size w w' := by
  have X0 := Lib.hid (show KBlk ((w.alloc (.cells (lkv x).toArray 37)).alloc (.cells (lkv y).toArray 37)) w.heap.size x from (KBlk.box w hx.out.len).alloc _)
  have Y0 := Lib.hid (show KBlk ((w.alloc (.cells (lkv x).toArray 37)).alloc (.cells (lkv y).toArray 37)) (w.heap.size + 1) y by
    have h := KBlk.box (w.alloc (.cells (lkv x).toArray 37)) hy.out.len
    simp only [World.size_alloc] at h
    exact h)
  have B0 := Lib.hid (show Below w.heap.size w ((w.alloc (.cells (lkv x).toArray 37)).alloc (.cells (lkv y).toArray 37)) from (bel_alloc1 w _).alloc (by simp) _)
  go_enter Tryd.func26, Tryd.ntmps26
  go_upto_region 1 with fail
  generalize World.alloc (World.alloc w _) _ = W at X0 Y0 B0 ⊢
  obtain ⟨x0, x1, x2, x3⟩ := X0.out.cells
  obtain ⟨y0, y1, y2, y3⟩ := Y0.out.cells
  have hlx := Lib.hid X0.out.2
  have hly := Lib.hid Y0.out.2
  have X2 := Lib.hid x2
  have Y2 := Lib.hid y2
  clear x2 y2
  rw [← hnode.out] at y0
  rw [← hno.out] at y1
  have EQ : ∀ u, (Op.equalIn 10000 35 (.agg (bv x.prev).toArray) (.agg (bv y.prev).toArray)).run Tryd.prog u = .ok false u := fun u => by rw [eqDig_any x.prev y.prev hlx.out hly.out u, decide_eq_false hprev.out]
  go_wp2_with (first
    | (refine list_loadM (by rfl) (.tmp 18) rfl w.heap.size 2 rfl x.prev X2.out hlx.out ?_)
    | (refine list_loadM (by rfl) (.tmp 20) rfl (w.heap.size + 1) 2 rfl y.prev Y2.out hly.out ?_))
  go_ret
  exact ⟨rfl, B0.out⟩
set_option maxRecDepth 100000 in
set_option maxHeartbeats 2000000 in
theorem pdiff_data (x y : Lk) (w : World) (hx : Hid (LkOk w x)) (hy : Hid (LkOk w y)) (hnode : Hid (x.node = y.node)) (hno : Hid (x.no = y.no)) (hprev : Hid (x.prev = y.prev)) (hbs : Hid (¬ x.bs = y.bs)) :
    Calls Tryd.prog 26 #[.agg (lkv x).toArray, .agg (lkv y).toArray] w fun e w' => e = .returned (.bool true) ∧ Below w.heap.size w w' := by
  have X0 := Lib.hid (show KBlk ((w.alloc (.cells (lkv x).toArray 37)).alloc (.cells (lkv y).toArray 37)) w.heap.size x from (KBlk.box w hx.out.len).alloc _)
  have Y0 := Lib.hid (show KBlk ((w.alloc (.cells (lkv x).toArray 37)).alloc (.cells (lkv y).toArray 37)) (w.heap.size + 1) y by
    have h := KBlk.box (w.alloc (.cells (lkv x).toArray 37)) hy.out.len
    simp only [World.size_alloc] at h
    exact h)
  have B0 := Lib.hid (show Below w.heap.size w ((w.alloc (.cells (lkv x).toArray 37)).alloc (.cells (lkv y).toArray 37)) from (bel_alloc1 w _).alloc (by simp) _)
  go_enter Tryd.func26, Tryd.ntmps26
  go_upto_region 1 with fail
  generalize World.alloc (World.alloc w _) _ = W at X0 Y0 B0 ⊢
  obtain ⟨x0, x1, x2, x3⟩ := X0.out.cells
  obtain ⟨y0, y1, y2, y3⟩ := Y0.out.cells
  have hlx := Lib.hid X0.out.2
  have hly := Lib.hid Y0.out.2
  have X2 := Lib.hid x2
  have Y2 := Lib.hid y2
  clear x2 y2
  rw [← hnode.out] at y0
  rw [← hno.out] at y1
  have Y2 := Lib.hid (show BytesAt W (w.heap.size + 1) 2 x.prev by rw [hprev.out]; exact Y2.out)
  have hly := hlx
  have EQ : ∀ u, (Op.equalIn 10000 35 (.agg (bv x.prev).toArray) (.agg (bv x.prev).toArray)).run Tryd.prog u = .ok true u := fun u => by rw [eqDig_any x.prev x.prev hlx.out hlx.out u, decide_eq_true rfl]
  go_wp2_with (first
    | (refine list_loadM (by rfl) (.tmp 18) rfl w.heap.size 2 rfl x.prev X2.out hlx.out ?_)
    | (refine list_loadM (by rfl) (.tmp 20) rfl (w.heap.size + 1) 2 rfl x.prev Y2.out hly.out ?_)
    | (go_at_call 27; refine (bequal_diff x.p y.p x.m x.c y.m y.c x.bs y.bs _ (Lib.hid (hx.out.src.below B0.out)) (Lib.hid (hy.out.src.below B0.out)) (Lib.hid hx.out.byt) (Lib.hid hy.out.byt) hbs).mono ?_; rintro e w' ⟨rfl, rfl⟩))
  go_ret
  exact ⟨rfl, B0.out⟩
set_option maxRecDepth 100000 in
set_option maxHeartbeats 2000000 in
theorem pdiff_none (x y : Lk) (w : World) (hx : Hid (LkOk w x)) (hy : Hid (LkOk w y)) (hnode : Hid (x.node = y.node)) (hno : Hid (x.no = y.no)) (hprev : Hid (x.prev = y.prev)) (hbs : Hid (x.bs = y.bs)) :
    Calls Tryd.prog 26 #[.agg (lkv x).toArray, .agg (lkv y).toArray] w fun e w' => e = .returned (.bool false) ∧ Below w.heap.size w w' := by
  have X0 := Lib.hid (show KBlk ((w.alloc (.cells (lkv x).toArray 37)).alloc (.cells (lkv y).toArray 37)) w.heap.size x from (KBlk.box w hx.out.len).alloc _)
  have Y0 := Lib.hid (show KBlk ((w.alloc (.cells (lkv x).toArray 37)).alloc (.cells (lkv y).toArray 37)) (w.heap.size + 1) y by
    have h := KBlk.box (w.alloc (.cells (lkv x).toArray 37)) hy.out.len
    simp only [World.size_alloc] at h
    exact h)
  have B0 := Lib.hid (show Below w.heap.size w ((w.alloc (.cells (lkv x).toArray 37)).alloc (.cells (lkv y).toArray 37)) from (bel_alloc1 w _).alloc (by simp) _)
  go_enter Tryd.func26, Tryd.ntmps26
  go_upto_region 1 with fail
  generalize World.alloc (World.alloc w _) _ = W at X0 Y0 B0 ⊢
  obtain ⟨x0, x1, x2, x3⟩ := X0.out.cells
  obtain ⟨y0, y1, y2, y3⟩ := Y0.out.cells
  have hlx := Lib.hid X0.out.2
  have hly := Lib.hid Y0.out.2
  have X2 := Lib.hid x2
  have Y2 := Lib.hid y2
  clear x2 y2
  rw [← hnode.out] at y0
  rw [← hno.out] at y1
  have Y2 := Lib.hid (show BytesAt W (w.heap.size + 1) 2 x.prev by rw [hprev.out]; exact Y2.out)
  have hly := hlx
  have EQ : ∀ u, (Op.equalIn 10000 35 (.agg (bv x.prev).toArray) (.agg (bv x.prev).toArray)).run Tryd.prog u = .ok true u := fun u => by rw [eqDig_any x.prev x.prev hlx.out hlx.out u, decide_eq_true rfl]
  go_wp2_with (first
    | (refine list_loadM (by rfl) (.tmp 18) rfl w.heap.size 2 rfl x.prev X2.out hlx.out ?_)
    | (refine list_loadM (by rfl) (.tmp 20) rfl (w.heap.size + 1) 2 rfl x.prev Y2.out hly.out ?_)
    | (go_at_call 27; refine (bequal_same x.p y.p x.m x.c y.m y.c x.bs _ (Lib.hid (hx.out.src.below B0.out)) (Lib.hid (by rw [hbs.out]; exact hy.out.src.below B0.out))).mono ?_; rintro e w' ⟨rfl, rfl⟩))
  go_ret
  exact ⟨rfl, B0.out⟩
theorem pdiff_is (x y : Lk) (w : World) (hx : Hid (LkOk w x)) (hy : Hid (LkOk w y)) (v : Bool) (hv : Hid (samB x y = v)) :
    Calls Tryd.prog 26 #[.agg (lkv x).toArray, .agg (lkv y).toArray] w fun e w' => e = .returned (.bool (!v)) ∧ Below w.heap.size w w' := by
  have hv := hv.out
  unfold samB at hv
  by_cases h1 : x.node = y.node
  case neg => rw [← hv, show (x.node == y.node) = false by simpa using h1]; exact pdiff_node x y w hx hy (Lib.hid h1)
  by_cases h2 : x.no = y.no
  case neg => rw [← hv, show (x.no == y.no) = false by simpa using h2, Bool.and_false]; exact pdiff_no x y w hx hy (Lib.hid h1) (Lib.hid h2)
  by_cases h3 : x.prev = y.prev
  case neg => rw [← hv, show (x.prev == y.prev) = false by simpa using h3, Bool.and_false]; exact pdiff_prev x y w hx hy (Lib.hid h1) (Lib.hid h2) (Lib.hid h3)
  by_cases h4 : x.bs = y.bs
  case neg => rw [← hv, show (x.bs == y.bs) = false by simpa using h4, Bool.and_false]; exact pdiff_data x y w hx hy (Lib.hid h1) (Lib.hid h2) (Lib.hid h3) (Lib.hid h4)
  have : v = true := by rw [← hv]; simp [h1, h2, h3, h4]
  subst this
  exact pdiff_none x y w hx hy (Lib.hid h1) (Lib.hid h2) (Lib.hid h3) (Lib.hid h4)
/-- where two lists part: the place and whether there is one; t: the length of the shorter one -/
def IsFst (ls ms : List Lk) (t : Nat) (ri : Int) (rb : Bool) : Prop := (AllB (fun j => samB (ls.getD j lk0) (ms.getD j lk0)) t → ri = 0 ∧ rb = false) ∧ ∀ k, k < t → AllB (fun j => samB (ls.getD j lk0) (ms.getD j lk0)) k → samB (ls.getD k lk0) (ms.getD k lk0) = false → ri = (k : Int) ∧ rb = true
set_option maxRecDepth 100000 in
set_option maxHeartbeats 4000000 in
theorem cfirst_le (p q : Option Addr) (n c m d : Nat) (ls ms : List Lk) (w : World) (hs : Hid (LksV w p n c ls)) (hz : Hid (LksV w q m d ms)) (hsm : Hid (Small ls)) (hsm2 : Hid (Small ms)) (hnm : n ≤ m) (ri : Int) (rb : Bool) (hres : Hid (IsFst ls ms n ri rb)) :
    Calls Tryd.prog 25 #[.slice p n c, .slice q m d, .func (.func 26) #[] #[]] w fun e w' => e = .returned (.tuple #[.int .i64 ri, .bool rb]) ∧ Below w.heap.size w w' := by
  have hn40 : n ≤ 40 := by have := hsm.out.n; have := hs.out.len; omega
  have hm40 : m ≤ 40 := by have := hsm2.out.n; have := hz.out.len; omega
  have hnc := hs.out.nc
  have hcm := hs.out.cm
  have hmd := hz.out.nc
  have hdm := hz.out.cm
  obtain ⟨t, ht⟩ : ∃ t, n = t := ⟨_, rfl⟩
  have hmin : min (n : Int) (m : Int) = (t : Int) := by omega
  have htn : t ≤ n := by omega
  have htm : t ≤ m := by omega
  rw [ht] at hres
  clear ht hnm
  go_enter Tryd.func25, Tryd.ntmps25
  go_wp2_with fail
  go_loopw [14] (fun i wr => ∃ k : Nat, k ≤ t ∧ i = .int .i64 (k : Int) ∧ Hid (AllB (fun j => samB (ls.getD j lk0) (ms.getD j lk0)) k) ∧ Hid (Below w.heap.size w wr)) (fun i _ => t - (intOf i).toNat)
  case atStart => exact ⟨0, by omega, by simp, Lib.hid (fun i hi => absurd hi (by omega)), Lib.hid (Below.refl _ w)⟩
  case round =>
    obtain ⟨k, hk, rfl, HA, HB⟩ := hrel
    by_cases hlt : k < t
    · have hkn : k < n := by omega
      have hkm : k < m := by omega
      obtain ⟨b, off, hp, hb, hr, hl⟩ := (hs.out.below HB.out).at (i := k) (by omega)
      obtain ⟨b2, off2, hp2, hb2, hr2, hl2⟩ := (hz.out.below HB.out).at (i := k) (by omega)
      have HXO := Lib.hid (hs.out.ok _ (getD_memL (i := k) (by have := hs.out.len; omega)))
      have HYO := Lib.hid (hz.out.ok _ (getD_memL (i := k) (by have := hz.out.len; omega)))
      obtain ⟨x, hx⟩ : ∃ x, ls.getD k lk0 = x := ⟨_, rfl⟩
      obtain ⟨y, hy⟩ : ∃ y, ms.getD k lk0 = y := ⟨_, rfl⟩
      have HSB := Lib.hid (show samB (ls.getD k lk0) (ms.getD k lk0) = samB x y by rw [hx, hy])
      rw [hx] at hr hl HXO
      rw [hy] at hr2 hl2 HYO
      subst hp
      subst hp2
      have hxl := Lib.hid hl.len
      have hyl := Lib.hid hl2.len
      have R1 := Lib.hid hr
      have R2 := Lib.hid hr2
      clear hr hr2 hl hl2 hx hy
      go_upto_region 4 with fail
      refine wp_region_any (by kernel_rfl) ?_
      change wpAny _ _ _ _ _ _ _ (World.drew _)
      generalize hWD : World.drew _ = V
      have BV := Lib.hid (show Below w.heap.size w V by rw [← hWD]; exact HB.out.drew)
      have RX := Lib.hid (show V.rangeAt b (off + k * 35) (lkv x) by rw [← hWD]; exact R1.out)
      have RY := Lib.hid (show V.rangeAt b2 (off2 + k * 35) (lkv y) by rw [← hWD]; exact R2.out)
      have hbV : b < V.heap.size := by rw [← hWD]; exact hb
      have hb2V : b2 < V.heap.size := by rw [← hWD]; exact hb2
      clear hWD R1 R2 hb hb2
      have hCD : ∀ u, Ext V u → Ext V u := fun u hu => hu
      refine region_U (D := Ext V) (Ext V) [9] (Ext.refl V) ?_
      refine anyU_takeP (i := 0) (j := 9) (v := .func (.func 26) #[] #[]) 17 [] rfl rfl (by kernel_rfl) (by kernel_rfl) (by kernel_rfl) (fun _ _ _ h => h) (by kernel_rfl) (Ext.stable _) hCD (yieldsU_val rfl (fun u hu => by go_simp)) ?_
      refine anyU_takeP (i := 1) (j := 9) (v := .slice (some ⟨b, off, none⟩) n c) 18 [4, 3] rfl rfl (by kernel_rfl) (by kernel_rfl) (by kernel_rfl) (fun _ _ _ h => h) (by kernel_rfl) (Ext.stable _) hCD (yieldsU_val rfl (fun u hu => by go_simp)) ?_
      refine anyU_takeP (i := 2) (j := 9) (v := .int .i64 (k : Int)) 19 [4, 3] rfl rfl (by kernel_rfl) (by kernel_rfl) (by kernel_rfl) (fun _ _ _ h => h) (by kernel_rfl) (Ext.stable _) hCD (yieldsU_val rfl (fun u hu => by go_simp)) ?_
      refine anyU_takeP (i := 3) (j := 9) (v := .pointer (some ⟨b, off + k * 35, none⟩)) 20 [4] rfl rfl (by kernel_rfl) (by kernel_rfl) (by kernel_rfl) (fun _ _ _ h => h) (by kernel_rfl) (Ext.stable _) hCD (yieldsU_val rfl (fun u hu => by go_simp)) ?_
      refine anyU_takeP (i := 4) (j := 9) (v := .agg (lkv x).toArray) 21 [] rfl rfl (by kernel_rfl) (by kernel_rfl) (by kernel_rfl) (fun _ _ _ h => h) (by kernel_rfl) (Ext.stable _) hCD (yieldsU_of_C (yields_loadK (by rfl) (.tmp 20) rfl b (off + k * 35) rfl x hxl.out (fun u hu => bel_range hu RX.out hbV))) ?_
      simp only [Act.put, List.setIfInBounds_toArray, List.set_cons_succ, List.set_cons_zero]
      refine anyU_takeP (i := 5) (j := 9) (v := .slice (some ⟨b2, off2, none⟩) m d) 22 [8, 7] rfl rfl (by kernel_rfl) (by kernel_rfl) (by kernel_rfl) (fun _ _ _ h => h) (by kernel_rfl) (Ext.stable _) hCD (yieldsU_val rfl (fun u hu => by go_simp)) ?_
      refine anyU_takeP (i := 6) (j := 9) (v := .int .i64 (k : Int)) 23 [8, 7] rfl rfl (by kernel_rfl) (by kernel_rfl) (by kernel_rfl) (fun _ _ _ h => h) (by kernel_rfl) (Ext.stable _) hCD (yieldsU_val rfl (fun u hu => by go_simp)) ?_
      refine anyU_takeP (i := 7) (j := 9) (v := .pointer (some ⟨b2, off2 + k * 35, none⟩)) 24 [8] rfl rfl (by kernel_rfl) (by kernel_rfl) (by kernel_rfl) (fun _ _ _ h => h) (by kernel_rfl) (Ext.stable _) hCD (yieldsU_val rfl (fun u hu => by go_simp)) ?_
      refine anyU_takeP (i := 8) (j := 9) (v := .agg (lkv y).toArray) 25 [] rfl rfl (by kernel_rfl) (by kernel_rfl) (by kernel_rfl) (fun _ _ _ h => h) (by kernel_rfl) (Ext.stable _) hCD (yieldsU_of_C (yields_loadK (by rfl) (.tmp 24) rfl b2 (off2 + k * 35) rfl y hyl.out (fun u hu => bel_range hu RY.out hb2V))) ?_
      simp only [Act.put, List.setIfInBounds_toArray, List.set_cons_succ, List.set_cons_zero]
      refine anyU_tail 9 [] rfl rfl (by decide) (by kernel_rfl) ?_
      intro u hu
      simp only [Act.put, List.filterMap_cons, List.filterMap_nil, List.getElem?_cons_succ, List.getElem?_cons_zero]
      have BU := Lib.hid (bel_trans BV.out hu)
      clear hu RX RY BV
      have XO := HXO
      have YO := HYO
      cases hsb : samB x y with
      | true =>
        have HT := Lib.hid (show samB (ls.getD k lk0) (ms.getD k lk0) = true by rw [HSB.out, hsb])
        go_wp2_with (go_at_call 26; refine (pdiff_is x y _ (Lib.hid (XO.out.below BU.out)) (Lib.hid (YO.out.below BU.out)) true (Lib.hid hsb)).mono ?_; rintro e w' ⟨rfl, hb⟩; have B7 := Lib.hid (bel_trans BU.out hb); clear hb)
        go_roundw
        case rel => exact ⟨k + 1, by omega, by simp, Lib.hid (fun i hi => by
          rcases Nat.lt_or_ge i k with h | h
          · exact HA.out i h
          · obtain rfl : i = k := by omega
            exact HT.out), B7⟩
        case measure => simp [intOf]; omega
      | false =>
        have HT := Lib.hid (show samB (ls.getD k lk0) (ms.getD k lk0) = false by rw [HSB.out, hsb])
        have HR := Lib.hid (hres.out.2 k hlt HA.out HT.out)
        go_wp2_with (go_at_call 26; refine (pdiff_is x y _ (Lib.hid (XO.out.below BU.out)) (Lib.hid (YO.out.below BU.out)) false (Lib.hid hsb)).mono ?_; rintro e w' ⟨rfl, hb⟩; have B7 := Lib.hid (bel_trans BU.out hb); clear hb)
        refine bodyPost_ret (v := .tuple #[.int .i64 (k : Int), .bool true]) (by simp [results, Tryd.results25, go_sem]) rfl ⟨by rw [HR.out.1, HR.out.2], B7.out⟩
    · obtain rfl : k = t := by omega
      have HR := Lib.hid (hres.out.1 HA.out)
      go_wp2_with fail
      go_ret2
      rw [HR.out.1, HR.out.2]
      exact ⟨rfl, HB.out⟩
set_option maxRecDepth 100000 in
set_option maxHeartbeats 4000000 in
theorem cfirst_gt (p q : Option Addr) (n c m d : Nat) (ls ms : List Lk) (w : World) (hs : Hid (LksV w p n c ls)) (hz : Hid (LksV w q m d ms)) (hsm : Hid (Small ls)) (hsm2 : Hid (Small ms)) (hnm : m < n) (ri : Int) (rb : Bool) (hres : Hid (IsFst ls ms m ri rb)) :
    Calls Tryd.prog 25 #[.slice p n c, .slice q m d, .func (.func 26) #[] #[]] w fun e w' => e = .returned (.tuple #[.int .i64 ri, .bool rb]) ∧ Below w.heap.size w w' := by
  have hn40 : n ≤ 40 := by have := hsm.out.n; have := hs.out.len; omega
  have hm40 : m ≤ 40 := by have := hsm2.out.n; have := hz.out.len; omega
  have hnc := hs.out.nc
  have hcm := hs.out.cm
  have hmd := hz.out.nc
  have hdm := hz.out.cm
  obtain ⟨t, ht⟩ : ∃ t, m = t := ⟨_, rfl⟩
  have hmin : min (n : Int) (m : Int) = (t : Int) := by omega
  have htn : t ≤ n := by omega
  have htm : t ≤ m := by omega
  rw [ht] at hres
  clear ht hnm
  go_enter Tryd.func25, Tryd.ntmps25
  go_wp2_with fail
  go_loopw [14] (fun i wr => ∃ k : Nat, k ≤ t ∧ i = .int .i64 (k : Int) ∧ Hid (AllB (fun j => samB (ls.getD j lk0) (ms.getD j lk0)) k) ∧ Hid (Below w.heap.size w wr)) (fun i _ => t - (intOf i).toNat)
  case atStart => exact ⟨0, by omega, by simp, Lib.hid (fun i hi => absurd hi (by omega)), Lib.hid (Below.refl _ w)⟩
  case round =>
    obtain ⟨k, hk, rfl, HA, HB⟩ := hrel
    by_cases hlt : k < t
    · have hkn : k < n := by omega
      have hkm : k < m := by omega
      obtain ⟨b, off, hp, hb, hr, hl⟩ := (hs.out.below HB.out).at (i := k) (by omega)
      obtain ⟨b2, off2, hp2, hb2, hr2, hl2⟩ := (hz.out.below HB.out).at (i := k) (by omega)
      have HXO := Lib.hid (hs.out.ok _ (getD_memL (i := k) (by have := hs.out.len; omega)))
      have HYO := Lib.hid (hz.out.ok _ (getD_memL (i := k) (by have := hz.out.len; omega)))
      obtain ⟨x, hx⟩ : ∃ x, ls.getD k lk0 = x := ⟨_, rfl⟩
      obtain ⟨y, hy⟩ : ∃ y, ms.getD k lk0 = y := ⟨_, rfl⟩
      have HSB := Lib.hid (show samB (ls.getD k lk0) (ms.getD k lk0) = samB x y by rw [hx, hy])
      rw [hx] at hr hl HXO
      rw [hy] at hr2 hl2 HYO
      subst hp
      subst hp2
      have hxl := Lib.hid hl.len
      have hyl := Lib.hid hl2.len
      have R1 := Lib.hid hr
      have R2 := Lib.hid hr2
      clear hr hr2 hl hl2 hx hy
      go_upto_region 4 with fail
      refine wp_region_any (by kernel_rfl) ?_
      change wpAny _ _ _ _ _ _ _ (World.drew _)
      generalize hWD : World.drew _ = V
      have BV := Lib.hid (show Below w.heap.size w V by rw [← hWD]; exact HB.out.drew)
      have RX := Lib.hid (show V.rangeAt b (off + k * 35) (lkv x) by rw [← hWD]; exact R1.out)
      have RY := Lib.hid (show V.rangeAt b2 (off2 + k * 35) (lkv y) by rw [← hWD]; exact R2.out)
      have hbV : b < V.heap.size := by rw [← hWD]; exact hb
      have hb2V : b2 < V.heap.size := by rw [← hWD]; exact hb2
      clear hWD R1 R2 hb hb2
      have hCD : ∀ u, Ext V u → Ext V u := fun u hu => hu
      refine region_U (D := Ext V) (Ext V) [9] (Ext.refl V) ?_
      refine anyU_takeP (i := 0) (j := 9) (v := .func (.func 26) #[] #[]) 17 [] rfl rfl (by kernel_rfl) (by kernel_rfl) (by kernel_rfl) (fun _ _ _ h => h) (by kernel_rfl) (Ext.stable _) hCD (yieldsU_val rfl (fun u hu => by go_simp)) ?_
      refine anyU_takeP (i := 1) (j := 9) (v := .slice (some ⟨b, off, none⟩) n c) 18 [4, 3] rfl rfl (by kernel_rfl) (by kernel_rfl) (by kernel_rfl) (fun _ _ _ h => h) (by kernel_rfl) (Ext.stable _) hCD (yieldsU_val rfl (fun u hu => by go_simp)) ?_
      refine anyU_takeP (i := 2) (j := 9) (v := .int .i64 (k : Int)) 19 [4, 3] rfl rfl (by kernel_rfl) (by kernel_rfl) (by kernel_rfl) (fun _ _ _ h => h) (by kernel_rfl) (Ext.stable _) hCD (yieldsU_val rfl (fun u hu => by go_simp)) ?_
      refine anyU_takeP (i := 3) (j := 9) (v := .pointer (some ⟨b, off + k * 35, none⟩)) 20 [4] rfl rfl (by kernel_rfl) (by kernel_rfl) (by kernel_rfl) (fun _ _ _ h => h) (by kernel_rfl) (Ext.stable _) hCD (yieldsU_val rfl (fun u hu => by go_simp)) ?_
      refine anyU_takeP (i := 4) (j := 9) (v := .agg (lkv x).toArray) 21 [] rfl rfl (by kernel_rfl) (by kernel_rfl) (by kernel_rfl) (fun _ _ _ h => h) (by kernel_rfl) (Ext.stable _) hCD (yieldsU_of_C (yields_loadK (by rfl) (.tmp 20) rfl b (off + k * 35) rfl x hxl.out (fun u hu => bel_range hu RX.out hbV))) ?_
      simp only [Act.put, List.setIfInBounds_toArray, List.set_cons_succ, List.set_cons_zero]
      refine anyU_takeP (i := 5) (j := 9) (v := .slice (some ⟨b2, off2, none⟩) m d) 22 [8, 7] rfl rfl (by kernel_rfl) (by kernel_rfl) (by kernel_rfl) (fun _ _ _ h => h) (by kernel_rfl) (Ext.stable _) hCD (yieldsU_val rfl (fun u hu => by go_simp)) ?_
      refine anyU_takeP (i := 6) (j := 9) (v := .int .i64 (k : Int)) 23 [8, 7] rfl rfl (by kernel_rfl) (by kernel_rfl) (by kernel_rfl) (fun _ _ _ h => h) (by kernel_rfl) (Ext.stable _) hCD (yieldsU_val rfl (fun u hu => by go_simp)) ?_
      refine anyU_takeP (i := 7) (j := 9) (v := .pointer (some ⟨b2, off2 + k * 35, none⟩)) 24 [8] rfl rfl (by kernel_rfl) (by kernel_rfl) (by kernel_rfl) (fun _ _ _ h => h) (by kernel_rfl) (Ext.stable _) hCD (yieldsU_val rfl (fun u hu => by go_simp)) ?_
      refine anyU_takeP (i := 8) (j := 9) (v := .agg (lkv y).toArray) 25 [] rfl rfl (by kernel_rfl) (by kernel_rfl) (by kernel_rfl) (fun _ _ _ h => h) (by kernel_rfl) (Ext.stable _) hCD (yieldsU_of_C (yields_loadK (by rfl) (.tmp 24) rfl b2 (off2 + k * 35) rfl y hyl.out (fun u hu => bel_range hu RY.out hb2V))) ?_
      simp only [Act.put, List.setIfInBounds_toArray, List.set_cons_succ, List.set_cons_zero]
      refine anyU_tail 9 [] rfl rfl (by decide) (by kernel_rfl) ?_
      intro u hu
      simp only [Act.put, List.filterMap_cons, List.filterMap_nil, List.getElem?_cons_succ, List.getElem?_cons_zero]
      have BU := Lib.hid (bel_trans BV.out hu)
      clear hu RX RY BV
      have XO := HXO
      have YO := HYO
      cases hsb : samB x y with
      | true =>
        have HT := Lib.hid (show samB (ls.getD k lk0) (ms.getD k lk0) = true by rw [HSB.out, hsb])
        go_wp2_with (go_at_call 26; refine (pdiff_is x y _ (Lib.hid (XO.out.below BU.out)) (Lib.hid (YO.out.below BU.out)) true (Lib.hid hsb)).mono ?_; rintro e w' ⟨rfl, hb⟩; have B7 := Lib.hid (bel_trans BU.out hb); clear hb)
        go_roundw
        case rel => exact ⟨k + 1, by omega, by simp, Lib.hid (fun i hi => by
          rcases Nat.lt_or_ge i k with h | h
          · exact HA.out i h
          · obtain rfl : i = k := by omega
            exact HT.out), B7⟩
        case measure => simp [intOf]; omega
      | false =>
        have HT := Lib.hid (show samB (ls.getD k lk0) (ms.getD k lk0) = false by rw [HSB.out, hsb])
        have HR := Lib.hid (hres.out.2 k hlt HA.out HT.out)
        go_wp2_with (go_at_call 26; refine (pdiff_is x y _ (Lib.hid (XO.out.below BU.out)) (Lib.hid (YO.out.below BU.out)) false (Lib.hid hsb)).mono ?_; rintro e w' ⟨rfl, hb⟩; have B7 := Lib.hid (bel_trans BU.out hb); clear hb)
        refine bodyPost_ret (v := .tuple #[.int .i64 (k : Int), .bool true]) (by simp [results, Tryd.results25, go_sem]) rfl ⟨by rw [HR.out.1, HR.out.2], B7.out⟩
    · obtain rfl : k = t := by omega
      have HR := Lib.hid (hres.out.1 HA.out)
      go_wp2_with fail
      go_ret2
      rw [HR.out.1, HR.out.2]
      exact ⟨rfl, HB.out⟩
end Go.Proofs.YtllcgehfmkmcdaaDoor
