/- The reference: SameLink, Same, Few. -/
import Derived.Test.YtllcgehfmkmcdaaDoorChnPrt
namespace Go.Proofs.YtllcgehfmkmcdaaDoor
open Go.RowKit
set_option linter.unusedVariables false
set_option linter.unusedSimpArgs false

set_option maxRecDepth 100000 in
set_option maxHeartbeats 2000000 in
theorem lsame_node (x y : Lk) (w : World) (hx : Hid (LkOk w x)) (hy : Hid (LkOk w y)) (hnode : Hid (¬ x.node = y.node)) :
    Calls Tryd.prog 18 #[.agg (lkv x).toArray, .agg (lkv y).toArray] w fun e w' => e = .returned (.bool false) ∧ Below w.heap.size w w' := by
  have X0 := Lib.hid (show KBlk ((w.alloc (.cells (lkv x).toArray 37)).alloc (.cells (lkv y).toArray 37)) w.heap.size x from (KBlk.box w hx.out.len).alloc _)
  have Y0 := Lib.hid (show KBlk ((w.alloc (.cells (lkv x).toArray 37)).alloc (.cells (lkv y).toArray 37)) (w.heap.size + 1) y by
    have h := KBlk.box (w.alloc (.cells (lkv x).toArray 37)) hy.out.len
    simp only [World.size_alloc] at h
    exact h)
  have B0 := Lib.hid (show Below w.heap.size w ((w.alloc (.cells (lkv x).toArray 37)).alloc (.cells (lkv y).toArray 37)) from (bel_alloc1 w _).alloc (by simp) _)
  go_enter Tryd.func18, Tryd.ntmps18
  go_upto_region 1 with fail
  generalize World.alloc (World.alloc w _) _ = W at X0 Y0 B0 ⊢
  obtain ⟨x0, x1, x2, x3⟩ := X0.out.cells
  obtain ⟨y0, y1, y2, y3⟩ := Y0.out.cells
  have hlx := Lib.hid X0.out.2
  have hly := Lib.hid Y0.out.2
  have X2 := Lib.hid x2
  have Y2 := Lib.hid y2
  have CX := conv_srcW (hx.out.src.below B0.out)
  have CY := conv_srcW (hy.out.src.below B0.out)
  clear x2 y2
  clear CX CY
  have hd1 : decide (x.node = y.node) = false := decide_eq_false hnode.out
  have hd2 : (x.node == y.node) = false := by simpa using hnode.out
  go_wp2_with fail
  go_ret
  exact ⟨rfl, B0.out⟩
set_option maxRecDepth 100000 in
set_option maxHeartbeats 2000000 in
theorem lsame_no (x y : Lk) (w : World) (hx : Hid (LkOk w x)) (hy : Hid (LkOk w y)) (hnode : Hid (x.node = y.node)) (hno : Hid (¬ x.no = y.no)) :
    Calls Tryd.prog 18 #[.agg (lkv x).toArray, .agg (lkv y).toArray] w fun e w' => e = .returned (.bool false) ∧ Below w.heap.size w w' := by
  have X0 := Lib.hid (show KBlk ((w.alloc (.cells (lkv x).toArray 37)).alloc (.cells (lkv y).toArray 37)) w.heap.size x from (KBlk.box w hx.out.len).alloc _)
  have Y0 := Lib.hid (show KBlk ((w.alloc (.cells (lkv x).toArray 37)).alloc (.cells (lkv y).toArray 37)) (w.heap.size + 1) y by
    have h := KBlk.box (w.alloc (.cells (lkv x).toArray 37)) hy.out.len
    simp only [World.size_alloc] at h
    exact h)
  have B0 := Lib.hid (show Below w.heap.size w ((w.alloc (.cells (lkv x).toArray 37)).alloc (.cells (lkv y).toArray 37)) from (bel_alloc1 w _).alloc (by simp) _)
  go_enter Tryd.func18, Tryd.ntmps18
  go_upto_region 1 with fail
  generalize World.alloc (World.alloc w _) _ = W at X0 Y0 B0 ⊢
  obtain ⟨x0, x1, x2, x3⟩ := X0.out.cells
  obtain ⟨y0, y1, y2, y3⟩ := Y0.out.cells
  have hlx := Lib.hid X0.out.2
  have hly := Lib.hid Y0.out.2
  have X2 := Lib.hid x2
  have Y2 := Lib.hid y2
  have CX := conv_srcW (hx.out.src.below B0.out)
  have CY := conv_srcW (hy.out.src.below B0.out)
  clear x2 y2
  clear CX CY
  rw [← hnode.out] at y0
  have hd1 : decide (x.no = y.no) = false := decide_eq_false hno.out
  have hd2 : (x.no == y.no) = false := by simpa using hno.out
  go_wp2_with fail
  go_ret
  exact ⟨rfl, B0.out⟩
set_option maxRecDepth 100000 in
set_option maxHeartbeats 2000000 in
theorem lsame_prev (x y : Lk) (w : World) (hx : Hid (LkOk w x)) (hy : Hid (LkOk w y)) (hnode : Hid (x.node = y.node)) (hno : Hid (x.no = y.no)) (hprev : Hid (¬ x.prev = y.prev)) :
    Calls Tryd.prog 18 #[.agg (lkv x).toArray, .agg (lkv y).toArray] w fun e w' => e = .returned (.bool false) ∧ Below w.heap.size w w' := by
  have X0 := Lib.hid (show KBlk ((w.alloc (.cells (lkv x).toArray 37)).alloc (.cells (lkv y).toArray 37)) w.heap.size x from (KBlk.box w hx.out.len).alloc _)
  have Y0 := Lib.hid (show KBlk ((w.alloc (.cells (lkv x).toArray 37)).alloc (.cells (lkv y).toArray 37)) (w.heap.size + 1) y by
    have h := KBlk.box (w.alloc (.cells (lkv x).toArray 37)) hy.out.len
    simp only [World.size_alloc] at h
    exact h)
  have B0 := Lib.hid (show Below w.heap.size w ((w.alloc (.cells (lkv x).toArray 37)).alloc (.cells (lkv y).toArray 37)) from (bel_alloc1 w _).alloc (by simp) _)
  go_enter Tryd.func18, Tryd.ntmps18
  go_upto_region 1 with fail
  generalize World.alloc (World.alloc w _) _ = W at X0 Y0 B0 ⊢
  obtain ⟨x0, x1, x2, x3⟩ := X0.out.cells
  obtain ⟨y0, y1, y2, y3⟩ := Y0.out.cells
  have hlx := Lib.hid X0.out.2
  have hly := Lib.hid Y0.out.2
  have X2 := Lib.hid x2
  have Y2 := Lib.hid y2
  have CX := conv_srcW (hx.out.src.below B0.out)
  have CY := conv_srcW (hy.out.src.below B0.out)
  clear x2 y2
  clear CX CY
  rw [← hnode.out] at y0
  rw [← hno.out] at y1
  have EQ : ∀ u, (Op.equalIn 10000 35 (.agg (bv x.prev).toArray) (.agg (bv y.prev).toArray)).run Tryd.prog u = .ok false u := fun u => by rw [eqDig_any x.prev y.prev hlx.out hly.out u, decide_eq_false hprev.out]
  go_wp2_with (first
    | (refine list_loadM (by rfl) (.tmp 18) rfl w.heap.size 2 rfl x.prev X2.out hlx.out ?_)
    | (refine list_loadM (by rfl) (.tmp 20) rfl (w.heap.size + 1) 2 rfl y.prev Y2.out hly.out ?_))
  go_ret
  exact ⟨rfl, B0.out⟩
set_option maxRecDepth 100000 in
set_option maxHeartbeats 2000000 in
theorem lsame_data (x y : Lk) (w : World) (hx : Hid (LkOk w x)) (hy : Hid (LkOk w y)) (hnode : Hid (x.node = y.node)) (hno : Hid (x.no = y.no)) (hprev : Hid (x.prev = y.prev)) (hbs : Hid (¬ x.bs = y.bs)) :
    Calls Tryd.prog 18 #[.agg (lkv x).toArray, .agg (lkv y).toArray] w fun e w' => e = .returned (.bool false) ∧ Below w.heap.size w w' := by
  have X0 := Lib.hid (show KBlk ((w.alloc (.cells (lkv x).toArray 37)).alloc (.cells (lkv y).toArray 37)) w.heap.size x from (KBlk.box w hx.out.len).alloc _)
  have Y0 := Lib.hid (show KBlk ((w.alloc (.cells (lkv x).toArray 37)).alloc (.cells (lkv y).toArray 37)) (w.heap.size + 1) y by
    have h := KBlk.box (w.alloc (.cells (lkv x).toArray 37)) hy.out.len
    simp only [World.size_alloc] at h
    exact h)
  have B0 := Lib.hid (show Below w.heap.size w ((w.alloc (.cells (lkv x).toArray 37)).alloc (.cells (lkv y).toArray 37)) from (bel_alloc1 w _).alloc (by simp) _)
  go_enter Tryd.func18, Tryd.ntmps18
  go_upto_region 1 with fail
  generalize World.alloc (World.alloc w _) _ = W at X0 Y0 B0 ⊢
  obtain ⟨x0, x1, x2, x3⟩ := X0.out.cells
  obtain ⟨y0, y1, y2, y3⟩ := Y0.out.cells
  have hlx := Lib.hid X0.out.2
  have hly := Lib.hid Y0.out.2
  have X2 := Lib.hid x2
  have Y2 := Lib.hid y2
  have CX := conv_srcW (hx.out.src.below B0.out)
  have CY := conv_srcW (hy.out.src.below B0.out)
  clear x2 y2
  rw [← hnode.out] at y0
  rw [← hno.out] at y1
  have Y2 := Lib.hid (show BytesAt W (w.heap.size + 1) 2 x.prev by rw [hprev.out]; exact Y2.out)
  have hly := hlx
  have EQ : ∀ u, (Op.equalIn 10000 35 (.agg (bv x.prev).toArray) (.agg (bv x.prev).toArray)).run Tryd.prog u = .ok true u := fun u => by rw [eqDig_any x.prev x.prev hlx.out hlx.out u, decide_eq_true rfl]
  have hne := strB_ne hx.out.byt hy.out.byt hbs.out
  obtain ⟨s, hs⟩ : ∃ s, strB x.bs = s := ⟨_, rfl⟩
  obtain ⟨u, hu⟩ : ∃ u, strB y.bs = u := ⟨_, rfl⟩
  rw [hs] at CX hne
  rw [hu] at CY hne
  have hq1 : decide (s = u) = false := decide_eq_false hne
  have hq2 := ba_ne hne
  clear hs hu hne
  go_wp2_with (first
    | (refine list_loadM (by rfl) (.tmp 18) rfl w.heap.size 2 rfl x.prev X2.out hlx.out ?_)
    | (refine list_loadM (by rfl) (.tmp 20) rfl (w.heap.size + 1) 2 rfl x.prev Y2.out hly.out ?_))
  go_ret
  exact ⟨rfl, B0.out⟩
set_option maxRecDepth 100000 in
set_option maxHeartbeats 2000000 in
theorem lsame_all (x y : Lk) (w : World) (hx : Hid (LkOk w x)) (hy : Hid (LkOk w y)) (hnode : Hid (x.node = y.node)) (hno : Hid (x.no = y.no)) (hprev : Hid (x.prev = y.prev)) (hbs : Hid (x.bs = y.bs)) :
    Calls Tryd.prog 18 #[.agg (lkv x).toArray, .agg (lkv y).toArray] w fun e w' => e = .returned (.bool true) ∧ Below w.heap.size w w' := by
  have X0 := Lib.hid (show KBlk ((w.alloc (.cells (lkv x).toArray 37)).alloc (.cells (lkv y).toArray 37)) w.heap.size x from (KBlk.box w hx.out.len).alloc _)
  have Y0 := Lib.hid (show KBlk ((w.alloc (.cells (lkv x).toArray 37)).alloc (.cells (lkv y).toArray 37)) (w.heap.size + 1) y by
    have h := KBlk.box (w.alloc (.cells (lkv x).toArray 37)) hy.out.len
    simp only [World.size_alloc] at h
    exact h)
  have B0 := Lib.hid (show Below w.heap.size w ((w.alloc (.cells (lkv x).toArray 37)).alloc (.cells (lkv y).toArray 37)) from (bel_alloc1 w _).alloc (by simp) _)
  go_enter Tryd.func18, Tryd.ntmps18
  go_upto_region 1 with fail
  generalize World.alloc (World.alloc w _) _ = W at X0 Y0 B0 ⊢
  obtain ⟨x0, x1, x2, x3⟩ := X0.out.cells
  obtain ⟨y0, y1, y2, y3⟩ := Y0.out.cells
  have hlx := Lib.hid X0.out.2
  have hly := Lib.hid Y0.out.2
  have X2 := Lib.hid x2
  have Y2 := Lib.hid y2
  have CX := conv_srcW (hx.out.src.below B0.out)
  have CY := conv_srcW (hy.out.src.below B0.out)
  clear x2 y2
  rw [← hnode.out] at y0
  rw [← hno.out] at y1
  have Y2 := Lib.hid (show BytesAt W (w.heap.size + 1) 2 x.prev by rw [hprev.out]; exact Y2.out)
  have hly := hlx
  have EQ : ∀ u, (Op.equalIn 10000 35 (.agg (bv x.prev).toArray) (.agg (bv x.prev).toArray)).run Tryd.prog u = .ok true u := fun u => by rw [eqDig_any x.prev x.prev hlx.out hlx.out u, decide_eq_true rfl]
  rw [← hbs.out] at CY
  obtain ⟨s, hs⟩ : ∃ s, strB x.bs = s := ⟨_, rfl⟩
  rw [hs] at CX CY
  clear hs
  go_wp2_with (first
    | (refine list_loadM (by rfl) (.tmp 18) rfl w.heap.size 2 rfl x.prev X2.out hlx.out ?_)
    | (refine list_loadM (by rfl) (.tmp 20) rfl (w.heap.size + 1) 2 rfl x.prev Y2.out hly.out ?_))
  go_ret
  exact ⟨rfl, B0.out⟩
theorem lsame_is (x y : Lk) (w : World) (hx : Hid (LkOk w x)) (hy : Hid (LkOk w y)) (v : Bool) (hv : Hid (samB x y = v)) :
    Calls Tryd.prog 18 #[.agg (lkv x).toArray, .agg (lkv y).toArray] w fun e w' => e = .returned (.bool v) ∧ Below w.heap.size w w' := by
  have hv := hv.out
  unfold samB at hv
  by_cases h1 : x.node = y.node
  case neg => rw [← hv, show (x.node == y.node) = false by simpa using h1]; exact lsame_node x y w hx hy (Lib.hid h1)
  by_cases h2 : x.no = y.no
  case neg => rw [← hv, show (x.no == y.no) = false by simpa using h2, Bool.and_false]; exact lsame_no x y w hx hy (Lib.hid h1) (Lib.hid h2)
  by_cases h3 : x.prev = y.prev
  case neg => rw [← hv, show (x.prev == y.prev) = false by simpa using h3, Bool.and_false]; exact lsame_prev x y w hx hy (Lib.hid h1) (Lib.hid h2) (Lib.hid h3)
  by_cases h4 : x.bs = y.bs
  case neg => rw [← hv, show (x.bs == y.bs) = false by simpa using h4, Bool.and_false]; exact lsame_data x y w hx hy (Lib.hid h1) (Lib.hid h2) (Lib.hid h3) (Lib.hid h4)
  have : v = true := by rw [← hv]; simp [h1, h2, h3, h4]
  subst this
  exact lsame_all x y w hx hy (Lib.hid h1) (Lib.hid h2) (Lib.hid h3) (Lib.hid h4)
/-- two lists of one length say the same -/
def IsSm (ls ms : List Lk) (v : Bool) : Prop := (AllB (fun j => samB (ls.getD j lk0) (ms.getD j lk0)) ls.length → v = true) ∧ ∀ k, k < ls.length → samB (ls.getD k lk0) (ms.getD k lk0) = false → v = false
theorem isSm (ls ms : List Lk) : ∃ v, IsSm ls ms v := by
  by_cases h : AllB (fun j => samB (ls.getD j lk0) (ms.getD j lk0)) ls.length
  · exact ⟨true, fun _ => rfl, fun k hk hf => by
    have h2 : samB (ls.getD k lk0) (ms.getD k lk0) = true := h k hk
    rw [hf] at h2
    cases h2⟩
  · exact ⟨false, fun h2 => absurd h2 h, fun _ _ _ => rfl⟩
set_option maxRecDepth 100000 in
set_option maxHeartbeats 4000000 in
theorem rsame_eq (p q : Option Addr) (n c d : Nat) (ls ms : List Lk) (w : World) (hs : Hid (LksV w p n c ls)) (hz : Hid (LksV w q n d ms)) (hn : n ≤ 2000) (v : Bool) (hv : Hid (IsSm ls ms v)) :
    Calls Tryd.prog 14 #[.slice p n c, .slice q n d] w fun e w' => e = .returned (.bool v) ∧ Below w.heap.size w w' := by
  have hnc := hs.out.nc
  have hcm := hs.out.cm
  have hmd := hz.out.nc
  have hdm := hz.out.cm
  go_enter Tryd.func14, Tryd.ntmps14
  go_wp2_with fail
  go_loopw [5] (fun i wr => ∃ k : Nat, k ≤ n ∧ i = .int .i64 (k : Int) ∧ Hid (AllB (fun j => samB (ls.getD j lk0) (ms.getD j lk0)) k) ∧ Hid (Below w.heap.size w wr)) (fun i _ => n - (intOf i).toNat)
  case atStart => exact ⟨0, by omega, by simp, Lib.hid (fun i hi => absurd hi (by omega)), Lib.hid (Below.refl _ w)⟩
  case round =>
    obtain ⟨k, hk, rfl, HA, HB⟩ := hrel
    by_cases hlt : k < n
    · obtain ⟨b, off, hp, hb, hr, hl⟩ := (hs.out.below HB.out).at hlt
      obtain ⟨b2, off2, hp2, hb2, hr2, hl2⟩ := (hz.out.below HB.out).at hlt
      have HXO := Lib.hid (hs.out.ok _ (getD_memL (i := k) (by have := hs.out.len; omega)))
      have HYO := Lib.hid (hz.out.ok _ (getD_memL (i := k) (by have := hz.out.len; omega)))
      obtain ⟨x, hx⟩ : ∃ x, ls.getD k lk0 = x := ⟨_, rfl⟩
      obtain ⟨y, hy⟩ : ∃ y, ms.getD k lk0 = y := ⟨_, rfl⟩
      have HSB := Lib.hid (show samB (ls.getD k lk0) (ms.getD k lk0) = samB x y by rw [hx, hy])
      rw [hx] at hr hl HXO
      rw [hy] at hr2 hl2 HYO
      subst hp
      subst hp2
      have hxl := Lib.hid hl.len
      have hyl := Lib.hid hl2.len
      have R1 := Lib.hid hr
      have R2 := Lib.hid hr2
      clear hr hr2 hl hl2 hx hy
      go_upto_region 6 with fail
      refine wp_region_any (by kernel_rfl) ?_
      change wpAny _ _ _ _ _ _ _ (World.drew _)
      generalize hWD : World.drew _ = V
      have BV := Lib.hid (show Below w.heap.size w V by rw [← hWD]; exact HB.out.drew)
      have RX := Lib.hid (show V.rangeAt b (off + k * 35) (lkv x) by rw [← hWD]; exact R1.out)
      have RY := Lib.hid (show V.rangeAt b2 (off2 + k * 35) (lkv y) by rw [← hWD]; exact R2.out)
      have hbV : b < V.heap.size := by rw [← hWD]; exact hb
      have hb2V : b2 < V.heap.size := by rw [← hWD]; exact hb2
      clear hWD R1 R2 hb hb2
      have hCD : ∀ u, Ext V u → Ext V u := fun u hu => hu
      refine region_U (D := Ext V) (Ext V) [8] (Ext.refl V) ?_
      refine anyU_takeP (i := 0) (j := 8) (v := .slice (some ⟨b, off, none⟩) n c) 17 [3, 2] rfl rfl (by kernel_rfl) (by kernel_rfl) (by kernel_rfl) (fun _ _ _ h => h) (by kernel_rfl) (Ext.stable _) hCD (yieldsU_val rfl (fun u hu => by go_simp)) ?_
      refine anyU_takeP (i := 1) (j := 8) (v := .int .i64 (k : Int)) 18 [3, 2] rfl rfl (by kernel_rfl) (by kernel_rfl) (by kernel_rfl) (fun _ _ _ h => h) (by kernel_rfl) (Ext.stable _) hCD (yieldsU_val rfl (fun u hu => by go_simp)) ?_
      refine anyU_takeP (i := 2) (j := 8) (v := .pointer (some ⟨b, off + k * 35, none⟩)) 19 [3] rfl rfl (by kernel_rfl) (by kernel_rfl) (by kernel_rfl) (fun _ _ _ h => h) (by kernel_rfl) (Ext.stable _) hCD (yieldsU_val rfl (fun u hu => by go_simp)) ?_
      refine anyU_takeP (i := 3) (j := 8) (v := .agg (lkv x).toArray) 20 [] rfl rfl (by kernel_rfl) (by kernel_rfl) (by kernel_rfl) (fun _ _ _ h => h) (by kernel_rfl) (Ext.stable _) hCD (yieldsU_of_C (yields_loadK (by rfl) (.tmp 19) rfl b (off + k * 35) rfl x hxl.out (fun u hu => bel_range hu RX.out hbV))) ?_
      simp only [Act.put, List.setIfInBounds_toArray, List.set_cons_succ, List.set_cons_zero]
      refine anyU_takeP (i := 4) (j := 8) (v := .slice (some ⟨b2, off2, none⟩) n d) 21 [7, 6] rfl rfl (by kernel_rfl) (by kernel_rfl) (by kernel_rfl) (fun _ _ _ h => h) (by kernel_rfl) (Ext.stable _) hCD (yieldsU_val rfl (fun u hu => by go_simp)) ?_
      refine anyU_takeP (i := 5) (j := 8) (v := .int .i64 (k : Int)) 22 [7, 6] rfl rfl (by kernel_rfl) (by kernel_rfl) (by kernel_rfl) (fun _ _ _ h => h) (by kernel_rfl) (Ext.stable _) hCD (yieldsU_val rfl (fun u hu => by go_simp)) ?_
      refine anyU_takeP (i := 6) (j := 8) (v := .pointer (some ⟨b2, off2 + k * 35, none⟩)) 23 [7] rfl rfl (by kernel_rfl) (by kernel_rfl) (by kernel_rfl) (fun _ _ _ h => h) (by kernel_rfl) (Ext.stable _) hCD (yieldsU_val rfl (fun u hu => by go_simp)) ?_
      refine anyU_takeP (i := 7) (j := 8) (v := .agg (lkv y).toArray) 24 [] rfl rfl (by kernel_rfl) (by kernel_rfl) (by kernel_rfl) (fun _ _ _ h => h) (by kernel_rfl) (Ext.stable _) hCD (yieldsU_of_C (yields_loadK (by rfl) (.tmp 23) rfl b2 (off2 + k * 35) rfl y hyl.out (fun u hu => bel_range hu RY.out hb2V))) ?_
      simp only [Act.put, List.setIfInBounds_toArray, List.set_cons_succ, List.set_cons_zero]
      refine anyU_tail 8 [9] rfl rfl (by decide) (by kernel_rfl) ?_
      intro u hu
      simp only [Act.put, List.filterMap_cons, List.filterMap_nil, List.getElem?_cons_succ, List.getElem?_cons_zero]
      have BU := Lib.hid (bel_trans BV.out hu)
      clear hu RX RY BV
      cases hsb : samB x y with
      | true =>
        have HT := Lib.hid (show samB (ls.getD k lk0) (ms.getD k lk0) = true by rw [HSB.out, hsb])
        go_wp2_with (go_at_call 18; refine (lsame_is x y _ (Lib.hid (HXO.out.below BU.out)) (Lib.hid (HYO.out.below BU.out)) true (Lib.hid hsb)).mono ?_; rintro e w' ⟨rfl, hb⟩; have B7 := Lib.hid (bel_trans BU.out hb); clear hb)
        go_roundw
        case rel => exact ⟨k + 1, by omega, by simp, Lib.hid (fun i hi => by
          rcases Nat.lt_or_ge i k with h | h
          · exact HA.out i h
          · obtain rfl : i = k := by omega
            exact HT.out), B7⟩
        case measure => simp [intOf]; omega
      | false =>
        have HT := Lib.hid (show samB (ls.getD k lk0) (ms.getD k lk0) = false by rw [HSB.out, hsb])
        have HR := Lib.hid (hv.out.2 k (by have := hs.out.len; omega) HT.out)
        go_wp2_with (go_at_call 18; refine (lsame_is x y _ (Lib.hid (HXO.out.below BU.out)) (Lib.hid (HYO.out.below BU.out)) false (Lib.hid hsb)).mono ?_; rintro e w' ⟨rfl, hb⟩; have B7 := Lib.hid (bel_trans BU.out hb); clear hb)
        go_ret
        rw [HR.out]
        exact ⟨rfl, B7.out⟩
    · obtain rfl : k = n := by omega
      have HR := Lib.hid (hv.out.1 (by rw [← hs.out.len]; exact HA.out))
      go_wp2_with fail
      go_ret
      rw [HR.out]
      exact ⟨rfl, HB.out⟩
theorem rsame_ne (p q : Option Addr) (n c m d : Nat) (ls ms : List Lk) (w : World) (hs : Hid (LksV w p n c ls)) (hz : Hid (LksV w q m d ms)) (hn : n ≤ 2000) (hm : m ≤ 2000) (hne : ¬ n = m) :
    Calls Tryd.prog 14 #[.slice p n c, .slice q m d] w fun e w' => e = .returned (.bool false) ∧ Below w.heap.size w w' := by
  have hd1 : decide ((n : Int) = (m : Int)) = false := decide_eq_false (by omega)
  have hd2 : ((n : Int) == (m : Int)) = false := by simp; omega
  go_enter Tryd.func14, Tryd.ntmps14
  go_wp2_with fail
  go_ret
  exact ⟨rfl, Below.refl _ w⟩
/-- few links, little data -/
def fewB (ls : List Lk) : Bool := decide (ls.length ≤ 16) && ls.all (fun x => decide (x.bs.length ≤ 300))
theorem few_small {ls : List Lk} (h : fewB ls = true) : Small ls := by
  unfold fewB at h
  simp only [Bool.and_eq_true, decide_eq_true_eq, List.all_eq_true] at h
  exact ⟨by omega, fun x hx => by have := h.2 x hx; omega⟩
set_option maxRecDepth 100000 in
set_option maxHeartbeats 2000000 in
theorem rfew_is (p : Option Addr) (n c : Nat) (ls : List Lk) (w : World) (hs : Hid (LksV w p n c ls)) (v : Bool) (hv : Hid (fewB ls = v)) :
    Calls Tryd.prog 9 #[.slice p n c] w fun e w' => e = .returned (.bool v) ∧ w = w' := by
  have hnc := hs.out.nc
  have hcm := hs.out.cm
  by_cases h16 : n ≤ 16
  case neg =>
    have hg : (16 : Int) < (n : Int) := by omega
    have HV := Lib.hid (show v = false by rw [← hv.out]; unfold fewB; rw [decide_eq_false (by have := hs.out.len; omega)]; rfl)
    go_enter Tryd.func9, Tryd.ntmps9
    go_wp2_with fail
    go_ret
    rw [HV.out]
    exact ⟨rfl, rfl⟩
  case pos =>
    have hg : ¬ ((n : Int) > 16) := by omega
    go_enter Tryd.func9, Tryd.ntmps9
    go_wp2_with fail
    go_loopw [3] (fun i wr => ∃ k : Nat, k ≤ n ∧ i = .int .i64 (k : Int) ∧ Hid (∀ i, i < k → (ls.getD i lk0).bs.length ≤ 300) ∧ w = wr) (fun i _ => n - (intOf i).toNat)
    case atStart => exact ⟨0, by omega, by simp, Lib.hid (fun i hi => absurd hi (by omega)), rfl⟩
    case round =>
      obtain ⟨k, hk, rfl, HA, rfl⟩ := hrel
      by_cases hlt : k < n
      · obtain ⟨b, off, hp, hb, hr, hl⟩ := hs.out.at hlt
        obtain ⟨x, hx⟩ : ∃ x, ls.getD k lk0 = x := ⟨_, rfl⟩
        have HM := Lib.hid (show x ∈ ls by rw [← hx]; exact getD_memL (by have := hs.out.len; omega))
        rw [hx] at hr hl
        subst hp
        have hm := srcW_len hl.src
        have hd := (lk_cells hr hl.len).2.2.2
        have hgx := Lib.hid (show ls.getD k lk0 = x from hx)
        clear hr hl hx
        by_cases h3 : x.bs.length ≤ 300
        · have hg : ¬ ((x.m : Int) > 300) := by omega
          have hle := Lib.hid h3
          go_wp2_with fail
          go_roundw
          case rel => exact ⟨k + 1, by omega, by simp, Lib.hid (fun i hi => by
            rcases Nat.lt_or_ge i k with h | h
            · exact HA.out i h
            · obtain rfl : i = k := by omega
              rw [hgx.out]; exact hle.out), by first | rfl | trivial⟩
          case measure => simp [intOf]; omega
        · have hg : (300 : Int) < (x.m : Int) := by omega
          have HV := Lib.hid (show v = false by
            rw [← hv.out]
            unfold fewB
            rw [Bool.and_eq_false_iff]; right
            rw [List.all_eq_false]
            exact ⟨x, HM.out, by simpa using h3⟩)
          go_wp2_with fail
          go_ret
          rw [HV.out]
          exact ⟨rfl, rfl⟩
      · obtain rfl : k = n := by omega
        have HV := Lib.hid (show v = true by
          rw [← hv.out]
          unfold fewB
          rw [decide_eq_true (by have := hs.out.len; omega), Bool.true_and, List.all_eq_true]
          intro x hx
          obtain ⟨i, hi, rfl⟩ := List.getElem_of_mem hx
          have := HA.out i (by have := hs.out.len; omega)
          simpa [List.getD, hi] using this)
        go_wp2_with fail
        go_ret
        rw [HV.out]
        exact ⟨rfl, rfl⟩
end Go.Proofs.YtllcgehfmkmcdaaDoor
