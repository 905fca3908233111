/- Package chain: Check. -/
import Derived.Test.YtllcgehfmkmcdaaDoorChnBeg
import Derived.Test.YtllcgehfmkmcdaaDoorRegR
namespace Go.Proofs.YtllcgehfmkmcdaaDoor
open Go.RowKit Go.Shelf
set_option linter.unusedVariables false
set_option linter.unusedSimpArgs false
attribute [local go_sem] Oper.semAt_some

theorem bel_keeps {W W' : World} (h : Below W.heap.size W W') : KeepsOthers W W' := KeepsOthers.of_grownBy (grown_of_below h) (fun j o e => by cases e)
theorem blk_own {β : Type} {B b : Nat} {t : TypeId} (c : β → Array Value) : OwnFrom B (fun (s : β) W => Blk W b (c s) t) := by
  intro s X Y row h hg hr
  refine (hg.block b h.lt ?_).trans h
  intro e
  obtain ⟨_, o, ho, hc⟩ := hr b e.symm
  rw [show X.heap[b]? = _ from h] at ho; cases ho; cases hc
/-- what must hold at an end, and no panic -/
def noPanic (Q : Exit → Act → World → Prop) : Exit → Act → World → Prop
  | .panic _, _, _ => False
  | e, a, w => Q e a w
theorem noPanic_le {Q : Exit → Act → World → Prop} : ∀ e a w, noPanic Q e a w → Q e a w := fun e a w h => by
  cases e <;> first | exact h | exact h.elim
theorem ret_leafM {F : Fence} {n : Nat} {P : Program} {fn : Func} {R : Ending → World → Prop} {a : Act} {w : World} {v : Value} (hr : (results fn a.tmps).run P w = .ok v w) (hd : a.defers = []) (hR : R (.returned v) w) : noPanic (bodyPostM F n P fn R) .ret a w := by
  show LeavesInM F n P fn a.tmps R a.defers .returning w
  rw [hd]
  exact ⟨v, hr, hR⟩
set_option maxRecDepth 100000 in
set_option maxHeartbeats 8000000 in
theorem ccheck_is (p : Option Addr) (n c : Nat) (ls : List Lk) (e : Int) (w : World) (hs : Hid (LksV w p n c ls)) (hsm : Hid (Small ls)) (hkey : Hid (KeysAt w)) (he : Hid (IsChk ls e)) :
    Calls Tryd.prog 16 #[.slice p n c] w fun r w' => r = .returned (.int .i64 e) ∧ Below w.heap.size w w' := by
  have HN := Lib.hid hs.out.len
  have hnc := hs.out.nc
  have hcm := hs.out.cm
  have hn40 : n ≤ 40 := by have := hsm.out.n; have := HN.out; omega
  have S0 := Lib.hid ((Blk.new w #[.slice p n c] 22).alloc (.cells #[.int .i64 0] 26))
  have E0 := Lib.hid (show Blk ((w.alloc (.cells #[.slice p n c] 22)).alloc (.cells #[.int .i64 0] 26)) (w.heap.size + 1) #[.int .i64 0] 26 by have := Blk.new (w.alloc (.cells #[.slice p n c] 22)) #[.int .i64 0] 26; simpa using this)
  have B0 := Lib.hid (show Below w.heap.size w ((w.alloc (.cells #[.slice p n c] 22)).alloc (.cells #[.int .i64 0] 26)) from (bel_alloc1 w _).alloc (by simp) _)
  refine (callsIn_wide (n := 5)).1 (callsIn_of_wp_marks Tryd.func16 rfl trivial ?_ rfl)
  simp only [Tryd.ntmps16, List.size_toArray, List.length_cons, List.length_nil, Nat.reduceAdd, Nat.reduceSub, Array.replicate_succ, Array.replicate_zero, List.push_toArray, List.append_toArray, List.nil_append, List.cons_append]
  refine wpIn_wide.2 ?_
  refine Code.wp_mono (Q := noPanic _) noPanic_le ?_
  go_upto_region 1 with fail
  generalize World.alloc (World.alloc w _) _ = W0 at S0 E0 B0 ⊢
  have s0 := S0.out.cell 0
  go_wp2_with fail
  clear s0
  go_loopw [12] (fun i wr => ∃ k : Nat, k ≤ n ∧ i = .int .i64 (k : Int) ∧ Hid (AllB (fldB ls) k) ∧ Hid (Blk wr w.heap.size #[.slice p n c] 22) ∧ Hid (Blk wr (w.heap.size + 1) #[.int .i64 0] 26) ∧ Hid (Below w.heap.size w wr)) (fun i _ => n - (intOf i).toNat)
  case atStart => exact ⟨0, by omega, by simp, Lib.hid (fun i hi => absurd hi (by omega)), S0, E0, B0⟩
  case round =>
    clear S0 E0 B0
    obtain ⟨k, hk, rfl, HA, HS, HE, HB⟩ := hrel
    by_cases hlt : k < n
    · obtain ⟨b, off, hp, hb', hr, hl⟩ := (hs.out.below HB.out).at hlt
      obtain ⟨b2, off2, hp2, hb2, hr0, hl0⟩ := (hs.out.below HB.out).at (i := 0) (by omega)
      subst hp
      obtain ⟨rfl, rfl⟩ : b = b2 ∧ off = off2 := by simpa using hp2
      clear hp2 hb2
      obtain ⟨x, hx⟩ : ∃ x, ls.getD k lk0 = x := ⟨_, rfl⟩
      obtain ⟨y, hy⟩ : ∃ y, ls.getD 0 lk0 = y := ⟨_, rfl⟩
      have HFB := Lib.hid (show fldB ls k = (decide (0 ≤ x.node) && decide (x.node < 24) && (x.node == y.node) && (x.no == (k : Int)) && decide (x.bs.length ≤ 65536)) by unfold fldB; rw [hx, hy])
      rw [hx] at hr hl
      rw [hy, show off + 0 * 35 = off by omega] at hr0
      rw [hy] at hl0
      have hbs : x.bs.length ≤ 400 := by rw [← hx]; exact hsm.out.d _ (getD_memL (by have := HN.out; omega))
      have hm4 : x.m ≤ 400 := by have := srcW_len hl.src; omega
      clear hx hy
      have n0 := (lk_cells hr0 hl0.len).1
      have HR := Lib.hid hr
      have HPL := Lib.hid hl.len
      have N0 := Lib.hid n0
      clear hr hr0 hl0 n0
      have s0 := HS.out.cell 0
      have hlw := HS.out.lt
      have hle := HE.out.lt
      have H80 : fldB ls k = false → e = 80 := fun h => (he.out.det (.inr ⟨⟨k, by have := HN.out; omega, by unfold linB; rw [h]; rfl⟩, rfl⟩))
      go_wp2_with (first
        | (refine list_loadK (by rfl) (.tmp 15) rfl b (off + k * 35) rfl x HPL.out HR.out ?_)
        | (refine list_storeK rfl (.tmp 4) (.tmp 16) rfl wr.heap.size rfl x rfl HPL.out lk0 (KBlk.new wr) ?_))
      intro w4 K4 k4
      have hb4 := Lib.hid ((bel_alloc1 wr _).trans (k4.below (Nat.le_refl _)))
      have B5 := Lib.hid (bel_trans HB.out hb4.out)
      have S5 := Lib.hid (HS.out.below hb4.out hlw)
      have E5 := Lib.hid (HE.out.below hb4.out hle)
      have n0 := (hb4.out.cell (p := ⟨b, off, none⟩) hb').trans N0.out
      have hbw : b < w4.heap.size := Nat.lt_of_lt_of_le hb' hb4.out.size
      have K5 := Lib.hid K4
      clear K4 k4 s0 HR N0 hb4
      generalize wr.heap.size = xb at K5 ⊢
      go_upto_region 6 with fail
      refine wp_region_any (by kernel_rfl) ?_
      change wpAny _ _ _ _ _ _ _ (World.drew _)
      generalize hWD : World.drew _ = V
      have BX := Lib.hid (show Below w.heap.size w V by rw [← hWD]; exact B5.out.drew)
      have SX := Lib.hid (show Blk V w.heap.size #[.slice (some ⟨b, off, none⟩) n c] 22 by rw [← hWD]; exact S5.out)
      have EX := Lib.hid (show Blk V (w.heap.size + 1) #[.int .i64 0] 26 by rw [← hWD]; exact E5.out)
      have KX := Lib.hid (show KBlk V xb x by rw [← hWD]; exact K5.out)
      have nV : V.cell? ⟨b, off, none⟩ = some (.int .i64 y.node) := by rw [← hWD]; exact n0
      have hbV : b < V.heap.size := by rw [← hWD]; exact hbw
      clear hWD B5 S5 E5 K5 n0 hbw
      have hCD : ∀ u, Ext V u → Ext V u := fun u hu => hu
      have hn0 : 0 < n := by omega
      cases hv : nodeB x.node with
      | false =>
        have HV := Lib.hid hv
        have N0 := Lib.hid nV
        clear nV
        refine region_U (D := Ext V) (Ext V) [24] (Ext.refl V) ?_
        refine anyU_takeP (i := 0) (j := 24) (v := .pointer (some ⟨xb, 0, none⟩)) 17 [19, 13, 4, 2, 1] rfl rfl (by kernel_rfl) (by kernel_rfl) (by kernel_rfl) (fun _ _ _ h => h) (by kernel_rfl) (Ext.stable _) hCD (yieldsU_val rfl (fun u hu => by go_simp)) ?_
        refine anyU_takeP (i := 1) (j := 24) (v := .int .i64 x.node) 18 [19, 13, 4, 2] rfl rfl (by kernel_rfl) (by kernel_rfl) (by kernel_rfl) (fun _ _ _ h => h) (by kernel_rfl) (Ext.stable _) hCD (yieldsU_val rfl (fun u hu => by obtain ⟨q0, q1, q2, q3⟩ := (KX.out.bel hu).cells; go_simp)) ?_
        refine anyU_takeP (i := 2) (j := 24) (v := .bool false) 19 [19, 13, 4] rfl rfl (by kernel_rfl) (by kernel_rfl) (by kernel_rfl) (fun _ _ _ h => h) (by kernel_rfl) (Ext.stable _) hCD (yieldsU_call rfl 20 _ _ rfl #[.int .i64 x.node] (by simp [Act.eval, Act.put]) (fun u => by go_simp) (fun u hu => by have q := cvalid_is x.node false u HV; exact q.mono fun e w' hh => ⟨hh.1, hh.2 ▸ Below.refl _ _⟩)) ?_
        refine anyU_takeP (i := 3) (j := 24) (v := .bool true) 20 [19, 13, 4] rfl rfl (by kernel_rfl) (by kernel_rfl) (by kernel_rfl) (fun _ _ _ h => h) (by kernel_rfl) (Ext.stable _) hCD (yieldsU_val rfl (fun u hu => by go_simp)) ?_
        refine anyU_takeP (i := 4) (j := 24) (v := .bool true) 21 [19, 13] rfl rfl (by kernel_rfl) (by kernel_rfl) (by kernel_rfl) (fun _ _ _ h => h) (by kernel_rfl) (Ext.stable _) hCD (yieldsU_val rfl (fun u hu => by go_simp)) ?_
        simp only [Act.put, List.setIfInBounds_toArray, List.set_cons_succ, List.set_cons_zero]
        refine anyU_takeP (i := 5) (j := 24) (v := undef) 22 [19, 13, 12, 11, 6] rfl rfl (by kernel_rfl) (by kernel_rfl) (by kernel_rfl) (fun _ _ _ h => h) (by kernel_rfl) (Ext.stable _) hCD (.inr ⟨by rfl, rfl⟩) ?_
        refine anyU_takeP (i := 6) (j := 24) (v := undef) 23 [19, 13, 12, 11] rfl rfl (by kernel_rfl) (by kernel_rfl) (by kernel_rfl) (fun _ _ _ h => h) (by kernel_rfl) (Ext.stable _) hCD (.inr ⟨by rfl, rfl⟩) ?_
        refine anyU_takeP (i := 7) (j := 24) (v := undef) 24 [19, 13, 12, 11, 10, 9, 8] rfl rfl (by kernel_rfl) (by kernel_rfl) (by kernel_rfl) (fun _ _ _ h => h) (by kernel_rfl) (Ext.stable _) hCD (.inr ⟨by rfl, rfl⟩) ?_
        simp only [Act.put, List.setIfInBounds_toArray, List.set_cons_succ, List.set_cons_zero]
        refine anyU_takeP (i := 8) (j := 24) (v := undef) 25 [19, 13, 12, 11, 10, 9] rfl rfl (by kernel_rfl) (by kernel_rfl) (by kernel_rfl) (fun _ _ _ h => h) (by kernel_rfl) (Ext.stable _) hCD (.inr ⟨by rfl, rfl⟩) ?_
        refine anyU_takeP (i := 9) (j := 24) (v := undef) 26 [19, 13, 12, 11, 10] rfl rfl (by kernel_rfl) (by kernel_rfl) (by kernel_rfl) (fun _ _ _ h => h) (by kernel_rfl) (Ext.stable _) hCD (.inr ⟨by rfl, rfl⟩) ?_
        refine anyU_takeP (i := 10) (j := 24) (v := undef) 27 [19, 13, 12, 11] rfl rfl (by kernel_rfl) (by kernel_rfl) (by kernel_rfl) (fun _ _ _ h => h) (by kernel_rfl) (Ext.stable _) hCD (.inr ⟨by rfl, rfl⟩) ?_
        refine anyU_takeP (i := 11) (j := 24) (v := undef) 28 [19, 13, 12] rfl rfl (by kernel_rfl) (by kernel_rfl) (by kernel_rfl) (fun _ _ _ h => h) (by kernel_rfl) (Ext.stable _) hCD (.inr ⟨by rfl, rfl⟩) ?_
        simp only [Act.put, List.setIfInBounds_toArray, List.set_cons_succ, List.set_cons_zero]
        refine anyU_takeP (i := 12) (j := 24) (v := .bool true) 29 [19, 13] rfl rfl (by kernel_rfl) (by kernel_rfl) (by kernel_rfl) (fun _ _ _ h => h) (by kernel_rfl) (Ext.stable _) hCD (yieldsU_val rfl (fun u hu => by go_simp)) ?_
        refine anyU_takeP (i := 13) (j := 24) (v := .bool true) 30 [19] rfl rfl (by kernel_rfl) (by kernel_rfl) (by kernel_rfl) (fun _ _ _ h => h) (by kernel_rfl) (Ext.stable _) hCD (yieldsU_val rfl (fun u hu => by go_simp)) ?_
        simp only [Act.put, List.setIfInBounds_toArray, List.set_cons_succ, List.set_cons_zero]
        refine anyU_takeP (i := 14) (j := 24) (v := undef) 31 [19, 18, 17, 15] rfl rfl (by kernel_rfl) (by kernel_rfl) (by kernel_rfl) (fun _ _ _ h => h) (by kernel_rfl) (Ext.stable _) hCD (.inr ⟨by rfl, rfl⟩) ?_
        refine anyU_takeP (i := 15) (j := 24) (v := undef) 32 [19, 18, 17] rfl rfl (by kernel_rfl) (by kernel_rfl) (by kernel_rfl) (fun _ _ _ h => h) (by kernel_rfl) (Ext.stable _) hCD (.inr ⟨by rfl, rfl⟩) ?_
        refine anyU_takeP (i := 16) (j := 24) (v := undef) 33 [19, 18, 17] rfl rfl (by kernel_rfl) (by kernel_rfl) (by kernel_rfl) (fun _ _ _ h => h) (by kernel_rfl) (Ext.stable _) hCD (.inr ⟨by rfl, rfl⟩) ?_
        refine anyU_takeP (i := 17) (j := 24) (v := undef) 34 [19, 18] rfl rfl (by kernel_rfl) (by kernel_rfl) (by kernel_rfl) (fun _ _ _ h => h) (by kernel_rfl) (Ext.stable _) hCD (.inr ⟨by rfl, rfl⟩) ?_
        simp only [Act.put, List.setIfInBounds_toArray, List.set_cons_succ, List.set_cons_zero]
        refine anyU_takeP (i := 18) (j := 24) (v := .bool true) 35 [19] rfl rfl (by kernel_rfl) (by kernel_rfl) (by kernel_rfl) (fun _ _ _ h => h) (by kernel_rfl) (Ext.stable _) hCD (yieldsU_val rfl (fun u hu => by go_simp)) ?_
        refine anyU_takeP (i := 19) (j := 24) (v := .bool true) 36 [] rfl rfl (by kernel_rfl) (by kernel_rfl) (by kernel_rfl) (fun _ _ _ h => h) (by kernel_rfl) (Ext.stable _) hCD (yieldsU_val rfl (fun u hu => by go_simp)) ?_
        simp only [Act.put, List.setIfInBounds_toArray, List.set_cons_succ, List.set_cons_zero]
        refine anyU_takeP (i := 20) (j := 24) (v := undef) 37 [23, 22, 21] rfl rfl (by kernel_rfl) (by kernel_rfl) (by kernel_rfl) (fun _ _ _ h => h) (by kernel_rfl) (Ext.stable _) hCD (.inr ⟨by rfl, rfl⟩) ?_
        refine anyU_takeP (i := 21) (j := 24) (v := undef) 38 [23, 22] rfl rfl (by kernel_rfl) (by kernel_rfl) (by kernel_rfl) (fun _ _ _ h => h) (by kernel_rfl) (Ext.stable _) hCD (.inr ⟨by rfl, rfl⟩) ?_
        refine anyU_takeP (i := 22) (j := 24) (v := undef) 39 [23] rfl rfl (by kernel_rfl) (by kernel_rfl) (by kernel_rfl) (fun _ _ _ h => h) (by kernel_rfl) (Ext.stable _) hCD (.inr ⟨by rfl, rfl⟩) ?_
        refine anyU_takeP (i := 23) (j := 24) (v := undef) 40 [] rfl rfl (by kernel_rfl) (by kernel_rfl) (by kernel_rfl) (fun _ _ _ h => h) (by kernel_rfl) (Ext.stable _) hCD (.inr ⟨by rfl, rfl⟩) ?_
        simp only [Act.put, List.setIfInBounds_toArray, List.set_cons_succ, List.set_cons_zero]
        refine anyU_tail 24 [] rfl rfl (by decide) (by kernel_rfl) ?_
        intro w6 hu6
        simp only [Act.put, List.filterMap_cons, List.filterMap_nil, List.getElem?_cons_succ, List.getElem?_cons_zero]
        have E6 := Lib.hid (EX.out.below hu6 EX.out.lt)
        have S6 := Lib.hid (SX.out.below hu6 SX.out.lt)
        have B6 := Lib.hid (bel_trans BX.out hu6)
        clear hu6 EX SX BX KX N0
        have ec0 := E6.out.cell 0
        have ef0 := E6.out.frozen 0
        go_wp2_with fail
        have ec := (E6.out.set 0 (.int .i64 80)).cell 0
        simp at ec
        refine ret_leafM (v := .int .i64 80) (by simp [results, Tryd.results16, go_sem, ec]) rfl ⟨by rw [H80 (by rw [HFB.out]; unfold nodeB at hv; rw [hv]; simp)], B6.out.setCell (p := ⟨w.heap.size + 1, 0, none⟩) (show w.heap.size ≤ w.heap.size + 1 by omega) _⟩
      | true =>
        have HV := Lib.hid hv
        by_cases hd : x.node = y.node
        case neg =>
          have hd1 : decide (x.node = y.node) = false := decide_eq_false hd
          have hd2 : (x.node == y.node) = false := by simpa using hd
          have N0 := Lib.hid nV
          clear nV
          refine region_U (D := Ext V) (Ext V) [24] (Ext.refl V) ?_
          refine anyU_takeP (i := 0) (j := 24) (v := .pointer (some ⟨xb, 0, none⟩)) 17 [19, 13, 4, 2, 1] rfl rfl (by kernel_rfl) (by kernel_rfl) (by kernel_rfl) (fun _ _ _ h => h) (by kernel_rfl) (Ext.stable _) hCD (yieldsU_val rfl (fun u hu => by go_simp)) ?_
          refine anyU_takeP (i := 1) (j := 24) (v := .int .i64 x.node) 18 [19, 13, 4, 2] rfl rfl (by kernel_rfl) (by kernel_rfl) (by kernel_rfl) (fun _ _ _ h => h) (by kernel_rfl) (Ext.stable _) hCD (yieldsU_val rfl (fun u hu => by obtain ⟨q0, q1, q2, q3⟩ := (KX.out.bel hu).cells; go_simp)) ?_
          refine anyU_takeP (i := 2) (j := 24) (v := .bool true) 19 [19, 13, 4] rfl rfl (by kernel_rfl) (by kernel_rfl) (by kernel_rfl) (fun _ _ _ h => h) (by kernel_rfl) (Ext.stable _) hCD (yieldsU_call rfl 20 _ _ rfl #[.int .i64 x.node] (by simp [Act.eval, Act.put]) (fun u => by go_simp) (fun u hu => by have q := cvalid_is x.node true u HV; exact q.mono fun e w' hh => ⟨hh.1, hh.2 ▸ Below.refl _ _⟩)) ?_
          refine anyU_takeP (i := 3) (j := 24) (v := .bool false) 20 [19, 13, 4] rfl rfl (by kernel_rfl) (by kernel_rfl) (by kernel_rfl) (fun _ _ _ h => h) (by kernel_rfl) (Ext.stable _) hCD (yieldsU_val rfl (fun u hu => by go_simp)) ?_
          refine anyU_takeP (i := 4) (j := 24) (v := .bool false) 21 [19, 13] rfl rfl (by kernel_rfl) (by kernel_rfl) (by kernel_rfl) (fun _ _ _ h => h) (by kernel_rfl) (Ext.stable _) hCD (yieldsU_val rfl (fun u hu => by go_simp)) ?_
          simp only [Act.put, List.setIfInBounds_toArray, List.set_cons_succ, List.set_cons_zero]
          refine anyU_takeP (i := 5) (j := 24) (v := .pointer (some ⟨xb, 0, none⟩)) 22 [19, 13, 12, 11, 6] rfl rfl (by kernel_rfl) (by kernel_rfl) (by kernel_rfl) (fun _ _ _ h => h) (by kernel_rfl) (Ext.stable _) hCD (yieldsU_val rfl (fun u hu => by go_simp)) ?_
          refine anyU_takeP (i := 6) (j := 24) (v := .int .i64 x.node) 23 [19, 13, 12, 11] rfl rfl (by kernel_rfl) (by kernel_rfl) (by kernel_rfl) (fun _ _ _ h => h) (by kernel_rfl) (Ext.stable _) hCD (yieldsU_val rfl (fun u hu => by obtain ⟨q0, q1, q2, q3⟩ := (KX.out.bel hu).cells; go_simp)) ?_
          refine anyU_takeP (i := 7) (j := 24) (v := .slice (some ⟨b, off, none⟩) n c) 24 [19, 13, 12, 11, 10, 9, 8] rfl rfl (by kernel_rfl) (by kernel_rfl) (by kernel_rfl) (fun _ _ _ h => h) (by kernel_rfl) (Ext.stable _) hCD (yieldsU_val rfl (fun u hu => by have cc := (SX.out.below hu SX.out.lt).cell 0; go_simp)) ?_
          simp only [Act.put, List.setIfInBounds_toArray, List.set_cons_succ, List.set_cons_zero]
          refine anyU_takeP (i := 8) (j := 24) (v := .pointer (some ⟨b, off, none⟩)) 25 [19, 13, 12, 11, 10, 9] rfl rfl (by kernel_rfl) (by kernel_rfl) (by kernel_rfl) (fun _ _ _ h => h) (by kernel_rfl) (Ext.stable _) hCD (yieldsU_val rfl (fun u hu => by go_simp)) ?_
          refine anyU_takeP (i := 9) (j := 24) (v := .pointer (some ⟨b, off, none⟩)) 26 [19, 13, 12, 11, 10] rfl rfl (by kernel_rfl) (by kernel_rfl) (by kernel_rfl) (fun _ _ _ h => h) (by kernel_rfl) (Ext.stable _) hCD (yieldsU_val rfl (fun u hu => by go_simp)) ?_
          refine anyU_takeP (i := 10) (j := 24) (v := .int .i64 y.node) 27 [19, 13, 12, 11] rfl rfl (by kernel_rfl) (by kernel_rfl) (by kernel_rfl) (fun _ _ _ h => h) (by kernel_rfl) (Ext.stable _) hCD (yieldsU_val rfl (fun u hu => by have cc := (hu.cell (p := ⟨b, off, none⟩) hbV).trans N0.out; go_simp)) ?_
          refine anyU_takeP (i := 11) (j := 24) (v := .bool true) 28 [19, 13, 12] rfl rfl (by kernel_rfl) (by kernel_rfl) (by kernel_rfl) (fun _ _ _ h => h) (by kernel_rfl) (Ext.stable _) hCD (yieldsU_val rfl (fun u hu => by go_simp)) ?_
          simp only [Act.put, List.setIfInBounds_toArray, List.set_cons_succ, List.set_cons_zero]
          refine anyU_takeP (i := 12) (j := 24) (v := .bool true) 29 [19, 13] rfl rfl (by kernel_rfl) (by kernel_rfl) (by kernel_rfl) (fun _ _ _ h => h) (by kernel_rfl) (Ext.stable _) hCD (yieldsU_val rfl (fun u hu => by go_simp)) ?_
          refine anyU_takeP (i := 13) (j := 24) (v := .bool true) 30 [19] rfl rfl (by kernel_rfl) (by kernel_rfl) (by kernel_rfl) (fun _ _ _ h => h) (by kernel_rfl) (Ext.stable _) hCD (yieldsU_val rfl (fun u hu => by go_simp)) ?_
          simp only [Act.put, List.setIfInBounds_toArray, List.set_cons_succ, List.set_cons_zero]
          refine anyU_takeP (i := 14) (j := 24) (v := undef) 31 [19, 18, 17, 15] rfl rfl (by kernel_rfl) (by kernel_rfl) (by kernel_rfl) (fun _ _ _ h => h) (by kernel_rfl) (Ext.stable _) hCD (.inr ⟨by rfl, rfl⟩) ?_
          refine anyU_takeP (i := 15) (j := 24) (v := undef) 32 [19, 18, 17] rfl rfl (by kernel_rfl) (by kernel_rfl) (by kernel_rfl) (fun _ _ _ h => h) (by kernel_rfl) (Ext.stable _) hCD (.inr ⟨by rfl, rfl⟩) ?_
          refine anyU_takeP (i := 16) (j := 24) (v := undef) 33 [19, 18, 17] rfl rfl (by kernel_rfl) (by kernel_rfl) (by kernel_rfl) (fun _ _ _ h => h) (by kernel_rfl) (Ext.stable _) hCD (.inr ⟨by rfl, rfl⟩) ?_
          refine anyU_takeP (i := 17) (j := 24) (v := undef) 34 [19, 18] rfl rfl (by kernel_rfl) (by kernel_rfl) (by kernel_rfl) (fun _ _ _ h => h) (by kernel_rfl) (Ext.stable _) hCD (.inr ⟨by rfl, rfl⟩) ?_
          simp only [Act.put, List.setIfInBounds_toArray, List.set_cons_succ, List.set_cons_zero]
          refine anyU_takeP (i := 18) (j := 24) (v := .bool true) 35 [19] rfl rfl (by kernel_rfl) (by kernel_rfl) (by kernel_rfl) (fun _ _ _ h => h) (by kernel_rfl) (Ext.stable _) hCD (yieldsU_val rfl (fun u hu => by go_simp)) ?_
          refine anyU_takeP (i := 19) (j := 24) (v := .bool true) 36 [] rfl rfl (by kernel_rfl) (by kernel_rfl) (by kernel_rfl) (fun _ _ _ h => h) (by kernel_rfl) (Ext.stable _) hCD (yieldsU_val rfl (fun u hu => by go_simp)) ?_
          simp only [Act.put, List.setIfInBounds_toArray, List.set_cons_succ, List.set_cons_zero]
          refine anyU_takeP (i := 20) (j := 24) (v := undef) 37 [23, 22, 21] rfl rfl (by kernel_rfl) (by kernel_rfl) (by kernel_rfl) (fun _ _ _ h => h) (by kernel_rfl) (Ext.stable _) hCD (.inr ⟨by rfl, rfl⟩) ?_
          refine anyU_takeP (i := 21) (j := 24) (v := undef) 38 [23, 22] rfl rfl (by kernel_rfl) (by kernel_rfl) (by kernel_rfl) (fun _ _ _ h => h) (by kernel_rfl) (Ext.stable _) hCD (.inr ⟨by rfl, rfl⟩) ?_
          refine anyU_takeP (i := 22) (j := 24) (v := undef) 39 [23] rfl rfl (by kernel_rfl) (by kernel_rfl) (by kernel_rfl) (fun _ _ _ h => h) (by kernel_rfl) (Ext.stable _) hCD (.inr ⟨by rfl, rfl⟩) ?_
          refine anyU_takeP (i := 23) (j := 24) (v := undef) 40 [] rfl rfl (by kernel_rfl) (by kernel_rfl) (by kernel_rfl) (fun _ _ _ h => h) (by kernel_rfl) (Ext.stable _) hCD (.inr ⟨by rfl, rfl⟩) ?_
          simp only [Act.put, List.setIfInBounds_toArray, List.set_cons_succ, List.set_cons_zero]
          refine anyU_tail 24 [] rfl rfl (by decide) (by kernel_rfl) ?_
          intro w6 hu6
          simp only [Act.put, List.filterMap_cons, List.filterMap_nil, List.getElem?_cons_succ, List.getElem?_cons_zero]
          have E6 := Lib.hid (EX.out.below hu6 EX.out.lt)
          have S6 := Lib.hid (SX.out.below hu6 SX.out.lt)
          have B6 := Lib.hid (bel_trans BX.out hu6)
          clear hu6 EX SX BX KX N0
          have ec0 := E6.out.cell 0
          have ef0 := E6.out.frozen 0
          go_wp2_with fail
          have ec := (E6.out.set 0 (.int .i64 80)).cell 0
          simp at ec
          refine ret_leafM (v := .int .i64 80) (by simp [results, Tryd.results16, go_sem, ec]) rfl ⟨by rw [H80 (by rw [HFB.out, hd2]; simp)], B6.out.setCell (p := ⟨w.heap.size + 1, 0, none⟩) (show w.heap.size ≤ w.heap.size + 1 by omega) _⟩
        case pos =>
          rw [← hd] at nV
          have N0 := Lib.hid nV
          clear nV
          by_cases hno : x.no = (k : Int)
          case neg =>
            have hd1 : decide (x.no = (k : Int)) = false := decide_eq_false hno
            have hd2 : (x.no == (k : Int)) = false := by simpa using hno
            refine region_U (D := Ext V) (Ext V) [24] (Ext.refl V) ?_
            refine anyU_takeP (i := 0) (j := 24) (v := .pointer (some ⟨xb, 0, none⟩)) 17 [19, 13, 4, 2, 1] rfl rfl (by kernel_rfl) (by kernel_rfl) (by kernel_rfl) (fun _ _ _ h => h) (by kernel_rfl) (Ext.stable _) hCD (yieldsU_val rfl (fun u hu => by go_simp)) ?_
            refine anyU_takeP (i := 1) (j := 24) (v := .int .i64 x.node) 18 [19, 13, 4, 2] rfl rfl (by kernel_rfl) (by kernel_rfl) (by kernel_rfl) (fun _ _ _ h => h) (by kernel_rfl) (Ext.stable _) hCD (yieldsU_val rfl (fun u hu => by obtain ⟨q0, q1, q2, q3⟩ := (KX.out.bel hu).cells; go_simp)) ?_
            refine anyU_takeP (i := 2) (j := 24) (v := .bool true) 19 [19, 13, 4] rfl rfl (by kernel_rfl) (by kernel_rfl) (by kernel_rfl) (fun _ _ _ h => h) (by kernel_rfl) (Ext.stable _) hCD (yieldsU_call rfl 20 _ _ rfl #[.int .i64 x.node] (by simp [Act.eval, Act.put]) (fun u => by go_simp) (fun u hu => by have q := cvalid_is x.node true u HV; exact q.mono fun e w' hh => ⟨hh.1, hh.2 ▸ Below.refl _ _⟩)) ?_
            refine anyU_takeP (i := 3) (j := 24) (v := .bool false) 20 [19, 13, 4] rfl rfl (by kernel_rfl) (by kernel_rfl) (by kernel_rfl) (fun _ _ _ h => h) (by kernel_rfl) (Ext.stable _) hCD (yieldsU_val rfl (fun u hu => by go_simp)) ?_
            refine anyU_takeP (i := 4) (j := 24) (v := .bool false) 21 [19, 13] rfl rfl (by kernel_rfl) (by kernel_rfl) (by kernel_rfl) (fun _ _ _ h => h) (by kernel_rfl) (Ext.stable _) hCD (yieldsU_val rfl (fun u hu => by go_simp)) ?_
            simp only [Act.put, List.setIfInBounds_toArray, List.set_cons_succ, List.set_cons_zero]
            refine anyU_takeP (i := 5) (j := 24) (v := .pointer (some ⟨xb, 0, none⟩)) 22 [19, 13, 12, 11, 6] rfl rfl (by kernel_rfl) (by kernel_rfl) (by kernel_rfl) (fun _ _ _ h => h) (by kernel_rfl) (Ext.stable _) hCD (yieldsU_val rfl (fun u hu => by go_simp)) ?_
            refine anyU_takeP (i := 6) (j := 24) (v := .int .i64 x.node) 23 [19, 13, 12, 11] rfl rfl (by kernel_rfl) (by kernel_rfl) (by kernel_rfl) (fun _ _ _ h => h) (by kernel_rfl) (Ext.stable _) hCD (yieldsU_val rfl (fun u hu => by obtain ⟨q0, q1, q2, q3⟩ := (KX.out.bel hu).cells; go_simp)) ?_
            refine anyU_takeP (i := 7) (j := 24) (v := .slice (some ⟨b, off, none⟩) n c) 24 [19, 13, 12, 11, 10, 9, 8] rfl rfl (by kernel_rfl) (by kernel_rfl) (by kernel_rfl) (fun _ _ _ h => h) (by kernel_rfl) (Ext.stable _) hCD (yieldsU_val rfl (fun u hu => by have cc := (SX.out.below hu SX.out.lt).cell 0; go_simp)) ?_
            simp only [Act.put, List.setIfInBounds_toArray, List.set_cons_succ, List.set_cons_zero]
            refine anyU_takeP (i := 8) (j := 24) (v := .pointer (some ⟨b, off, none⟩)) 25 [19, 13, 12, 11, 10, 9] rfl rfl (by kernel_rfl) (by kernel_rfl) (by kernel_rfl) (fun _ _ _ h => h) (by kernel_rfl) (Ext.stable _) hCD (yieldsU_val rfl (fun u hu => by go_simp)) ?_
            refine anyU_takeP (i := 9) (j := 24) (v := .pointer (some ⟨b, off, none⟩)) 26 [19, 13, 12, 11, 10] rfl rfl (by kernel_rfl) (by kernel_rfl) (by kernel_rfl) (fun _ _ _ h => h) (by kernel_rfl) (Ext.stable _) hCD (yieldsU_val rfl (fun u hu => by go_simp)) ?_
            refine anyU_takeP (i := 10) (j := 24) (v := .int .i64 x.node) 27 [19, 13, 12, 11] rfl rfl (by kernel_rfl) (by kernel_rfl) (by kernel_rfl) (fun _ _ _ h => h) (by kernel_rfl) (Ext.stable _) hCD (yieldsU_val rfl (fun u hu => by have cc := (hu.cell (p := ⟨b, off, none⟩) hbV).trans N0.out; go_simp)) ?_
            refine anyU_takeP (i := 11) (j := 24) (v := .bool false) 28 [19, 13, 12] rfl rfl (by kernel_rfl) (by kernel_rfl) (by kernel_rfl) (fun _ _ _ h => h) (by kernel_rfl) (Ext.stable _) hCD (yieldsU_val rfl (fun u hu => by go_simp)) ?_
            simp only [Act.put, List.setIfInBounds_toArray, List.set_cons_succ, List.set_cons_zero]
            refine anyU_takeP (i := 12) (j := 24) (v := .bool false) 29 [19, 13] rfl rfl (by kernel_rfl) (by kernel_rfl) (by kernel_rfl) (fun _ _ _ h => h) (by kernel_rfl) (Ext.stable _) hCD (yieldsU_val rfl (fun u hu => by go_simp)) ?_
            refine anyU_takeP (i := 13) (j := 24) (v := .bool false) 30 [19] rfl rfl (by kernel_rfl) (by kernel_rfl) (by kernel_rfl) (fun _ _ _ h => h) (by kernel_rfl) (Ext.stable _) hCD (yieldsU_val rfl (fun u hu => by go_simp)) ?_
            simp only [Act.put, List.setIfInBounds_toArray, List.set_cons_succ, List.set_cons_zero]
            refine anyU_takeP (i := 14) (j := 24) (v := .pointer (some ⟨xb, 1, none⟩)) 31 [19, 18, 17, 15] rfl rfl (by kernel_rfl) (by kernel_rfl) (by kernel_rfl) (fun _ _ _ h => h) (by kernel_rfl) (Ext.stable _) hCD (yieldsU_val rfl (fun u hu => by go_simp)) ?_
            refine anyU_takeP (i := 15) (j := 24) (v := .int .i64 x.no) 32 [19, 18, 17] rfl rfl (by kernel_rfl) (by kernel_rfl) (by kernel_rfl) (fun _ _ _ h => h) (by kernel_rfl) (Ext.stable _) hCD (yieldsU_val rfl (fun u hu => by obtain ⟨q0, q1, q2, q3⟩ := (KX.out.bel hu).cells; go_simp)) ?_
            refine anyU_takeP (i := 16) (j := 24) (v := .int .i64 (k : Int)) 33 [19, 18, 17] rfl rfl (by kernel_rfl) (by kernel_rfl) (by kernel_rfl) (fun _ _ _ h => h) (by kernel_rfl) (Ext.stable _) hCD (yieldsU_val rfl (fun u hu => by go_simp)) ?_
            refine anyU_takeP (i := 17) (j := 24) (v := .bool true) 34 [19, 18] rfl rfl (by kernel_rfl) (by kernel_rfl) (by kernel_rfl) (fun _ _ _ h => h) (by kernel_rfl) (Ext.stable _) hCD (yieldsU_val rfl (fun u hu => by go_simp)) ?_
            simp only [Act.put, List.setIfInBounds_toArray, List.set_cons_succ, List.set_cons_zero]
            refine anyU_takeP (i := 18) (j := 24) (v := .bool true) 35 [19] rfl rfl (by kernel_rfl) (by kernel_rfl) (by kernel_rfl) (fun _ _ _ h => h) (by kernel_rfl) (Ext.stable _) hCD (yieldsU_val rfl (fun u hu => by go_simp)) ?_
            refine anyU_takeP (i := 19) (j := 24) (v := .bool true) 36 [] rfl rfl (by kernel_rfl) (by kernel_rfl) (by kernel_rfl) (fun _ _ _ h => h) (by kernel_rfl) (Ext.stable _) hCD (yieldsU_val rfl (fun u hu => by go_simp)) ?_
            simp only [Act.put, List.setIfInBounds_toArray, List.set_cons_succ, List.set_cons_zero]
            refine anyU_takeP (i := 20) (j := 24) (v := undef) 37 [23, 22, 21] rfl rfl (by kernel_rfl) (by kernel_rfl) (by kernel_rfl) (fun _ _ _ h => h) (by kernel_rfl) (Ext.stable _) hCD (.inr ⟨by rfl, rfl⟩) ?_
            refine anyU_takeP (i := 21) (j := 24) (v := undef) 38 [23, 22] rfl rfl (by kernel_rfl) (by kernel_rfl) (by kernel_rfl) (fun _ _ _ h => h) (by kernel_rfl) (Ext.stable _) hCD (.inr ⟨by rfl, rfl⟩) ?_
            refine anyU_takeP (i := 22) (j := 24) (v := undef) 39 [23] rfl rfl (by kernel_rfl) (by kernel_rfl) (by kernel_rfl) (fun _ _ _ h => h) (by kernel_rfl) (Ext.stable _) hCD (.inr ⟨by rfl, rfl⟩) ?_
            refine anyU_takeP (i := 23) (j := 24) (v := undef) 40 [] rfl rfl (by kernel_rfl) (by kernel_rfl) (by kernel_rfl) (fun _ _ _ h => h) (by kernel_rfl) (Ext.stable _) hCD (.inr ⟨by rfl, rfl⟩) ?_
            simp only [Act.put, List.setIfInBounds_toArray, List.set_cons_succ, List.set_cons_zero]
            refine anyU_tail 24 [] rfl rfl (by decide) (by kernel_rfl) ?_
            intro w6 hu6
            simp only [Act.put, List.filterMap_cons, List.filterMap_nil, List.getElem?_cons_succ, List.getElem?_cons_zero]
            have E6 := Lib.hid (EX.out.below hu6 EX.out.lt)
            have S6 := Lib.hid (SX.out.below hu6 SX.out.lt)
            have B6 := Lib.hid (bel_trans BX.out hu6)
            clear hu6 EX SX BX KX N0
            have ec0 := E6.out.cell 0
            have ef0 := E6.out.frozen 0
            go_wp2_with fail
            have ec := (E6.out.set 0 (.int .i64 80)).cell 0
            simp at ec
            refine ret_leafM (v := .int .i64 80) (by simp [results, Tryd.results16, go_sem, ec]) rfl ⟨by rw [H80 (by rw [HFB.out, hd2]; simp)], B6.out.setCell (p := ⟨w.heap.size + 1, 0, none⟩) (show w.heap.size ≤ w.heap.size + 1 by omega) _⟩
          case pos =>
            have hg1 : ¬ ((x.m : Int) > 65536) := by omega
            have HFT := Lib.hid (show fldB ls k = true by
              have hv2 := HV.out
              unfold nodeB at hv2
              rw [HFB.out, hv2, hd, hno]
              simp; omega)
            refine region_U (D := Ext V) (Ext V) [24] (Ext.refl V) ?_
            refine anyU_takeP (i := 0) (j := 24) (v := .pointer (some ⟨xb, 0, none⟩)) 17 [19, 13, 4, 2, 1] rfl rfl (by kernel_rfl) (by kernel_rfl) (by kernel_rfl) (fun _ _ _ h => h) (by kernel_rfl) (Ext.stable _) hCD (yieldsU_val rfl (fun u hu => by go_simp)) ?_
            refine anyU_takeP (i := 1) (j := 24) (v := .int .i64 x.node) 18 [19, 13, 4, 2] rfl rfl (by kernel_rfl) (by kernel_rfl) (by kernel_rfl) (fun _ _ _ h => h) (by kernel_rfl) (Ext.stable _) hCD (yieldsU_val rfl (fun u hu => by obtain ⟨q0, q1, q2, q3⟩ := (KX.out.bel hu).cells; go_simp)) ?_
            refine anyU_takeP (i := 2) (j := 24) (v := .bool true) 19 [19, 13, 4] rfl rfl (by kernel_rfl) (by kernel_rfl) (by kernel_rfl) (fun _ _ _ h => h) (by kernel_rfl) (Ext.stable _) hCD (yieldsU_call rfl 20 _ _ rfl #[.int .i64 x.node] (by simp [Act.eval, Act.put]) (fun u => by go_simp) (fun u hu => by have q := cvalid_is x.node true u HV; exact q.mono fun e w' hh => ⟨hh.1, hh.2 ▸ Below.refl _ _⟩)) ?_
            refine anyU_takeP (i := 3) (j := 24) (v := .bool false) 20 [19, 13, 4] rfl rfl (by kernel_rfl) (by kernel_rfl) (by kernel_rfl) (fun _ _ _ h => h) (by kernel_rfl) (Ext.stable _) hCD (yieldsU_val rfl (fun u hu => by go_simp)) ?_
            refine anyU_takeP (i := 4) (j := 24) (v := .bool false) 21 [19, 13] rfl rfl (by kernel_rfl) (by kernel_rfl) (by kernel_rfl) (fun _ _ _ h => h) (by kernel_rfl) (Ext.stable _) hCD (yieldsU_val rfl (fun u hu => by go_simp)) ?_
            simp only [Act.put, List.setIfInBounds_toArray, List.set_cons_succ, List.set_cons_zero]
            refine anyU_takeP (i := 5) (j := 24) (v := .pointer (some ⟨xb, 0, none⟩)) 22 [19, 13, 12, 11, 6] rfl rfl (by kernel_rfl) (by kernel_rfl) (by kernel_rfl) (fun _ _ _ h => h) (by kernel_rfl) (Ext.stable _) hCD (yieldsU_val rfl (fun u hu => by go_simp)) ?_
            refine anyU_takeP (i := 6) (j := 24) (v := .int .i64 x.node) 23 [19, 13, 12, 11] rfl rfl (by kernel_rfl) (by kernel_rfl) (by kernel_rfl) (fun _ _ _ h => h) (by kernel_rfl) (Ext.stable _) hCD (yieldsU_val rfl (fun u hu => by obtain ⟨q0, q1, q2, q3⟩ := (KX.out.bel hu).cells; go_simp)) ?_
            refine anyU_takeP (i := 7) (j := 24) (v := .slice (some ⟨b, off, none⟩) n c) 24 [19, 13, 12, 11, 10, 9, 8] rfl rfl (by kernel_rfl) (by kernel_rfl) (by kernel_rfl) (fun _ _ _ h => h) (by kernel_rfl) (Ext.stable _) hCD (yieldsU_val rfl (fun u hu => by have cc := (SX.out.below hu SX.out.lt).cell 0; go_simp)) ?_
            simp only [Act.put, List.setIfInBounds_toArray, List.set_cons_succ, List.set_cons_zero]
            refine anyU_takeP (i := 8) (j := 24) (v := .pointer (some ⟨b, off, none⟩)) 25 [19, 13, 12, 11, 10, 9] rfl rfl (by kernel_rfl) (by kernel_rfl) (by kernel_rfl) (fun _ _ _ h => h) (by kernel_rfl) (Ext.stable _) hCD (yieldsU_val rfl (fun u hu => by go_simp)) ?_
            refine anyU_takeP (i := 9) (j := 24) (v := .pointer (some ⟨b, off, none⟩)) 26 [19, 13, 12, 11, 10] rfl rfl (by kernel_rfl) (by kernel_rfl) (by kernel_rfl) (fun _ _ _ h => h) (by kernel_rfl) (Ext.stable _) hCD (yieldsU_val rfl (fun u hu => by go_simp)) ?_
            refine anyU_takeP (i := 10) (j := 24) (v := .int .i64 x.node) 27 [19, 13, 12, 11] rfl rfl (by kernel_rfl) (by kernel_rfl) (by kernel_rfl) (fun _ _ _ h => h) (by kernel_rfl) (Ext.stable _) hCD (yieldsU_val rfl (fun u hu => by have cc := (hu.cell (p := ⟨b, off, none⟩) hbV).trans N0.out; go_simp)) ?_
            refine anyU_takeP (i := 11) (j := 24) (v := .bool false) 28 [19, 13, 12] rfl rfl (by kernel_rfl) (by kernel_rfl) (by kernel_rfl) (fun _ _ _ h => h) (by kernel_rfl) (Ext.stable _) hCD (yieldsU_val rfl (fun u hu => by go_simp)) ?_
            simp only [Act.put, List.setIfInBounds_toArray, List.set_cons_succ, List.set_cons_zero]
            refine anyU_takeP (i := 12) (j := 24) (v := .bool false) 29 [19, 13] rfl rfl (by kernel_rfl) (by kernel_rfl) (by kernel_rfl) (fun _ _ _ h => h) (by kernel_rfl) (Ext.stable _) hCD (yieldsU_val rfl (fun u hu => by go_simp)) ?_
            refine anyU_takeP (i := 13) (j := 24) (v := .bool false) 30 [19] rfl rfl (by kernel_rfl) (by kernel_rfl) (by kernel_rfl) (fun _ _ _ h => h) (by kernel_rfl) (Ext.stable _) hCD (yieldsU_val rfl (fun u hu => by go_simp)) ?_
            simp only [Act.put, List.setIfInBounds_toArray, List.set_cons_succ, List.set_cons_zero]
            refine anyU_takeP (i := 14) (j := 24) (v := .pointer (some ⟨xb, 1, none⟩)) 31 [19, 18, 17, 15] rfl rfl (by kernel_rfl) (by kernel_rfl) (by kernel_rfl) (fun _ _ _ h => h) (by kernel_rfl) (Ext.stable _) hCD (yieldsU_val rfl (fun u hu => by go_simp)) ?_
            refine anyU_takeP (i := 15) (j := 24) (v := .int .i64 (k : Int)) 32 [19, 18, 17] rfl rfl (by kernel_rfl) (by kernel_rfl) (by kernel_rfl) (fun _ _ _ h => h) (by kernel_rfl) (Ext.stable _) hCD (yieldsU_val rfl (fun u hu => by obtain ⟨q0, q1, q2, q3⟩ := (KX.out.bel hu).cells; rw [hno] at q1; go_simp)) ?_
            refine anyU_takeP (i := 16) (j := 24) (v := .int .i64 (k : Int)) 33 [19, 18, 17] rfl rfl (by kernel_rfl) (by kernel_rfl) (by kernel_rfl) (fun _ _ _ h => h) (by kernel_rfl) (Ext.stable _) hCD (yieldsU_val rfl (fun u hu => by go_simp)) ?_
            refine anyU_takeP (i := 17) (j := 24) (v := .bool false) 34 [19, 18] rfl rfl (by kernel_rfl) (by kernel_rfl) (by kernel_rfl) (fun _ _ _ h => h) (by kernel_rfl) (Ext.stable _) hCD (yieldsU_val rfl (fun u hu => by go_simp)) ?_
            simp only [Act.put, List.setIfInBounds_toArray, List.set_cons_succ, List.set_cons_zero]
            refine anyU_takeP (i := 18) (j := 24) (v := .bool false) 35 [19] rfl rfl (by kernel_rfl) (by kernel_rfl) (by kernel_rfl) (fun _ _ _ h => h) (by kernel_rfl) (Ext.stable _) hCD (yieldsU_val rfl (fun u hu => by go_simp)) ?_
            refine anyU_takeP (i := 19) (j := 24) (v := .bool false) 36 [] rfl rfl (by kernel_rfl) (by kernel_rfl) (by kernel_rfl) (fun _ _ _ h => h) (by kernel_rfl) (Ext.stable _) hCD (yieldsU_val rfl (fun u hu => by go_simp)) ?_
            simp only [Act.put, List.setIfInBounds_toArray, List.set_cons_succ, List.set_cons_zero]
            refine anyU_takeP (i := 20) (j := 24) (v := .pointer (some ⟨xb, 34, none⟩)) 37 [23, 22, 21] rfl rfl (by kernel_rfl) (by kernel_rfl) (by kernel_rfl) (fun _ _ _ h => h) (by kernel_rfl) (Ext.stable _) hCD (yieldsU_val rfl (fun u hu => by go_simp)) ?_
            refine anyU_takeP (i := 21) (j := 24) (v := .slice x.p x.m x.c) 38 [23, 22] rfl rfl (by kernel_rfl) (by kernel_rfl) (by kernel_rfl) (fun _ _ _ h => h) (by kernel_rfl) (Ext.stable _) hCD (yieldsU_val rfl (fun u hu => by obtain ⟨q0, q1, q2, q3⟩ := (KX.out.bel hu).cells; go_simp)) ?_
            refine anyU_takeP (i := 22) (j := 24) (v := .int .i64 (x.m : Int)) 39 [23] rfl rfl (by kernel_rfl) (by kernel_rfl) (by kernel_rfl) (fun _ _ _ h => h) (by kernel_rfl) (Ext.stable _) hCD (yieldsU_val rfl (fun u hu => by go_simp)) ?_
            refine anyU_takeP (i := 23) (j := 24) (v := .bool false) 40 [] rfl rfl (by kernel_rfl) (by kernel_rfl) (by kernel_rfl) (fun _ _ _ h => h) (by kernel_rfl) (Ext.stable _) hCD (yieldsU_val rfl (fun u hu => by go_simp)) ?_
            simp only [Act.put, List.setIfInBounds_toArray, List.set_cons_succ, List.set_cons_zero]
            refine anyU_tail 24 [] rfl rfl (by decide) (by kernel_rfl) ?_
            intro w6 hu6
            simp only [Act.put, List.filterMap_cons, List.filterMap_nil, List.getElem?_cons_succ, List.getElem?_cons_zero]
            have E6 := Lib.hid (EX.out.below hu6 EX.out.lt)
            have S6 := Lib.hid (SX.out.below hu6 SX.out.lt)
            have B6 := Lib.hid (bel_trans BX.out hu6)
            clear hu6 EX SX BX KX N0
            go_wp2_with fail
            go_roundw
            case rel => exact ⟨k + 1, by omega, by simp, Lib.hid (fun i hi => by
              rcases Nat.lt_or_ge i k with h | h
              · exact HA.out i h
              · obtain rfl : i = k := by omega
                exact HFT.out), S6, E6, B6⟩
            case measure => simp [intOf]; omega
    · obtain rfl : k = n := by omega
      have s0 := HS.out.cell 0
      obtain ⟨ib, hib⟩ : ∃ ib, wr.heap.size = ib := ⟨_, rfl⟩
      have HIB := Lib.hid hib
      have hlw := HS.out.lt
      have hle := HE.out.lt
      go_wp2_with (go_at_call 31; refine (cbeg_fn p k c ib _ hib).mono ?_; rintro e' w' ⟨rfl, rfl⟩)
      have C1 := Lib.hid (show Blk (wr.alloc (.cells #[.slice p k c] 22)) ib #[.slice p k c] 22 by rw [← hib]; exact Blk.new wr _ _)
      have S1 := Lib.hid (HS.out.alloc (.cells #[.slice p k c] 22))
      have E1 := Lib.hid (HE.out.alloc (.cells #[.slice p k c] 22))
      have B1 := Lib.hid (HB.out.alloc HB.out.size (.cells #[.slice p k c] 22))
      generalize World.alloc wr _ = w1 at C1 S1 E1 B1 ⊢
      clear HS HE HB s0 hib
      have hkc : k ≤ c := hnc
      refine (wpIn_wide (n := 5)).1 ?_
      refine wpIn_rangeFunc_ownH rfl (by omega) (gf := 36) (lb := #[.pointer (some ⟨ib, 0, none⟩)]) rfl trivial (enters_of Tryd.func36 (by kernel_rfl) rfl)
        (begins_stops p k c ls 4 (by omega) ib w1 C1.out.lt (C1.out.cell 0) (Lib.hid (hs.out.below B1.out)) hsm (Lib.hid (hkey.out.below B1.out))) belowK_t (belowK_b (Nat.le_refl _)) (Below.refl _ _) (fun _ => rfl)
        (fun pre W => (((∀ t ∈ pre, prvB ls t.val = true) ∧ Blk W w.heap.size #[.slice p k c] 22 ∧ Blk W (w.heap.size + 1) #[.int .i64 0] 26) ∧ w1.heap.size ≤ W.heap.size) ∧ Below w.heap.size w W)
        (fun c' pre W => (c' = .ret ∧ (∃ t : Fin ls.length, prvB ls t.val = false) ∧ Blk W (w.heap.size + 1) #[.int .i64 80] 26) ∧ Below w.heap.size w W)
        (OwnFrom.and (OwnFrom.and (fun s X Y row h hg hr => ⟨h.1, blk_own (β := Unit) (B := w1.heap.size) (fun _ => #[.slice p k c]) () X Y row h.2.1 hg hr, blk_own (β := Unit) (B := w1.heap.size) (fun _ => #[.int .i64 0]) () X Y row h.2.2 hg hr⟩) (fun s X Y row h hg hr => Nat.le_trans h hg.size)) (ownFrom_below (Nat.le_refl _) (by have := B1.out.size; omega)))
        (fun c' => OwnFrom.and (fun s X Y row h hg hr => ⟨h.1, h.2.1, blk_own (β := Unit) (B := w1.heap.size) (fun _ => #[.int .i64 80]) () X Y row h.2.2 hg hr⟩) (ownFrom_below (Nat.le_refl _) (by have := B1.out.size; omega)))
        ⟨⟨⟨fun t ht => by simp at ht, S1.out, E1.out⟩, Nat.le_refl _⟩, B1.out⟩
        (fun x a' W => ∃ Bc, w.heap.size + 1 < Bc ∧ Dg W Bc (headOf (ls.take x.val)) ∧ a' = { tmps := #[.slice p k c, .pointer (some ⟨w.heap.size, 0, none⟩), .pointer (some ⟨w.heap.size + 1, 0, none⟩), u3, u4, .int .i64 (x.val : Int), .pointer (some ⟨Bc, 0, none⟩), .slice p k c, .int .i64 (k : Int), .bool (decide ((1024 : Int) < (k : Int))), .slice p k c, .int .i64 (k : Int), .int .i64 (k : Int), .bool false, u14, u15, u16, u17, u18, u19, u20, u21, u22, u23, u24, u25, u26, u27, u28, u29, u30, u31, u32, u33, u34, u35, u36, u37, u38, u39, u40, u41, u42, .slice p k c, .func (.func 36) #[] #[.pointer (some ⟨ib, 0, none⟩)], .int .i64 (x.val : Int), .agg (bv (headOf (ls.take x.val))).toArray, undef, undef, undef, undef, undef, undef, undef], defers := [] })
        (fun x a' s X Y row h hg hr => by
          obtain ⟨Bc, h1, h2, h3⟩ := h
          exact ⟨Bc, h1, ⟨(blk_own (β := Unit) (B := w1.heap.size) fun _ => _) s X Y row h2.1 hg hr, h2.2⟩, h3⟩) ?assign ?body ?done ?stop
      case assign =>
        rintro lo pre x W K ⟨⟨⟨j0, j1, j2⟩, j4⟩, hB⟩ hK
        obtain ⟨ds, hds⟩ : ∃ ds, headOf (ls.take x.val) = ds := ⟨_, rfl⟩
        have ld : ds.length = 32 := by rw [← hds]; exact headOf_len _
        have hx1 : bEnc ls x = #[.int .i64 (x.val : Int), .agg (bv ds).toArray] := by unfold bEnc; rw [hds]
        have J := Lib.hid (show (∀ t ∈ pre, prvB ls t.val = true) ∧ Blk W w.heap.size #[.slice p k c] 22 ∧ Blk W (w.heap.size + 1) #[.int .i64 0] 26 from ⟨j0, j1, j2⟩)
        have J4 := Lib.hid j4
        have HBW := Lib.hid hB
        have HK := Lib.hid hK
        have HDS := Lib.hid hds
        have HLD := Lib.hid ld
        rw [hx1]
        clear j0 j1 j2 j4 hB hK hx1 hds ld
        refine wpIn_seq ?_
        refine region_round rfl (by rintro ⟨_, _, h⟩; exact h) ?_
        go_wp2_with fail
        refine region_round rfl (by rintro ⟨_, _, h⟩; exact h) ?_
        go_wp2_with (refine list_storeD rfl (.tmp 6) (.tmp 46) rfl W.heap.size rfl ds rfl HLD.out (List.replicate 32 0) (Dg.new W) ?_)
        intro w3 D3 k3
        have hb3 : Below W.heap.size W w3 := (bel_alloc1 W _).trans (k3.below (Nat.le_refl _))
        refine HK.out _ _ ((bel_keeps hb3).from _) (Below.mono hb3 J4.out) ⟨⟨⟨J.out.1, J.out.2.1.below hb3 J.out.2.1.lt, J.out.2.2.below hb3 J.out.2.2.lt⟩, Nat.le_trans J4.out hb3.size⟩, HBW.out.trans (hb3.mono HBW.out.size)⟩ ⟨W.heap.size, by have := J.out.2.2.lt; omega, ?_, ?_⟩
        · rw [HDS.out]; exact D3
        · rw [HDS.out]
      case body =>
        rintro lo pre x a' W hl hr ⟨⟨⟨j0, j1, j2⟩, j4⟩, hB⟩ ⟨Bc, hBc, jc, rfl⟩ hlt
        have hxk : x.val < k := by have := HN.out; have := x.isLt; omega
        obtain ⟨b, off, hp, hb', hr0, hl0⟩ := (hs.out.below hB).at hxk
        subst hp
        have HP := Lib.hid (show prvB ls x.val = ((ls.getD x.val lk0).prev == headOf (ls.take x.val)) from rfl)
        obtain ⟨y, hy⟩ : ∃ y, ls.getD x.val lk0 = y := ⟨_, rfl⟩
        rw [hy] at hr0 hl0 HP
        obtain ⟨ds, hds⟩ : ∃ ds, headOf (ls.take x.val) = ds := ⟨_, rfl⟩
        rw [hds] at jc HP
        obtain ⟨zs, hzs⟩ : ∃ zs, y.prev = zs := ⟨_, rfl⟩
        have hlz := hl0.len
        have hzb := (lk_cells hr0 hl0.len).2.2.1
        rw [hzs] at hlz hzb HP
        have hzl := Lib.hid hlz
        have hdl := Lib.hid jc.2
        have J0 := Lib.hid j0
        have J1 := Lib.hid j1
        have J2 := Lib.hid j2
        have J4 := Lib.hid j4
        have HBW := Lib.hid hB
        have HX := Lib.hid (show x = x from rfl)
        obtain ⟨xv, hxv⟩ := x
        dsimp only at hxk HP hzb hds ⊢
        simp only [hds]
        clear hy hds hzs hr0 hl0 j0 j1 j2 j4 hB hl hr hlt hlz HX
        refine wpIn_block ?_
        refine wpIn_seq ?_
        refine region_round_any (by kernel_rfl) rfl (by rintro ⟨_, _, h⟩; exact h) ?_
        change wpAny _ _ _ _ _ _ _ (World.drew _)
        generalize hWD : World.drew _ = V
        have BV := Lib.hid (show Below W.heap.size W V by rw [← hWD]; exact (Below.refl _ W).drew)
        have SX := Lib.hid (show Blk V w.heap.size #[.slice (some ⟨b, off, none⟩) k c] 22 by rw [← hWD]; exact J1.out)
        have EX := Lib.hid (show Blk V (w.heap.size + 1) #[.int .i64 0] 26 by rw [← hWD]; exact J2.out)
        have DX := Lib.hid (show Dg V Bc ds by rw [← hWD]; exact jc)
        have ZX := Lib.hid (show BytesAt V b (off + xv * 35 + 2) zs by rw [← hWD]; exact hzb)
        have hbV : b < V.heap.size := by rw [← hWD]; exact hb'
        clear hWD jc hzb
        have hCD : ∀ u, Ext V u → Ext V u := fun u hu => hu
        have EQ := fun u => eqDig_any zs ds hzl.out hdl.out u
        refine region_U (D := Ext V) (Ext V) [6] (Ext.refl V) ?_
        refine anyU_takeP (i := 0) (j := 6) (v := .slice (some ⟨b, off, none⟩) k c) 47 [4, 3, 2] rfl rfl (by kernel_rfl) (by kernel_rfl) (by kernel_rfl) (fun _ _ _ h => h) (by kernel_rfl) (Ext.stable _) hCD (yieldsU_val rfl (fun u hu => by have cc := (SX.out.below hu SX.out.lt).cell 0; go_simp)) ?_
        refine anyU_takeP (i := 1) (j := 6) (v := .int .i64 (xv : Int)) 48 [4, 3, 2] rfl rfl (by kernel_rfl) (by kernel_rfl) (by kernel_rfl) (fun _ _ _ h => h) (by kernel_rfl) (Ext.stable _) hCD (yieldsU_val rfl (fun u hu => by go_simp)) ?_
        refine anyU_takeP (i := 2) (j := 6) (v := .pointer (some ⟨b, off + xv * 35, none⟩)) 49 [4, 3] rfl rfl (by kernel_rfl) (by kernel_rfl) (by kernel_rfl) (fun _ _ _ h => h) (by kernel_rfl) (Ext.stable _) hCD (yieldsU_val rfl (fun u hu => by go_simp)) ?_
        refine anyU_takeP (i := 3) (j := 6) (v := .pointer (some ⟨b, off + xv * 35 + 2, none⟩)) 50 [4] rfl rfl (by kernel_rfl) (by kernel_rfl) (by kernel_rfl) (fun _ _ _ h => h) (by kernel_rfl) (Ext.stable _) hCD (yieldsU_val rfl (fun u hu => by go_simp)) ?_
        refine anyU_takeP (i := 4) (j := 6) (v := .agg (bv zs).toArray) 51 [] rfl rfl (by kernel_rfl) (by kernel_rfl) (by kernel_rfl) (fun _ _ _ h => h) (by kernel_rfl) (Ext.stable _) hCD (yieldsU_of_C (yields_loadM (by rfl) (.tmp 50) rfl b (off + xv * 35 + 2) rfl zs hzl.out (fun u hu => fun j hj => (hu.cell (p := ⟨b, off + xv * 35 + 2 + j, none⟩) hbV).trans (ZX.out j hj)))) ?_
        refine anyU_takeP (i := 5) (j := 6) (v := .agg (bv ds).toArray) 52 [] rfl rfl (by kernel_rfl) (by kernel_rfl) (by kernel_rfl) (fun _ _ _ h => h) (by kernel_rfl) (Ext.stable _) hCD (yieldsU_of_C (yields_loadD (by rfl) (.tmp 6) rfl Bc rfl ds hdl.out (fun u hu => DX.out.bel hu))) ?_
        simp only [Act.put, List.setIfInBounds_toArray, List.set_cons_succ, List.set_cons_zero]
        refine anyU_tail 6 [] rfl rfl (by decide) (by kernel_rfl) ?_
        intro u hu
        simp only [Act.put, List.filterMap_cons, List.filterMap_nil, List.getElem?_cons_succ, List.getElem?_cons_zero]
        have BU := Lib.hid (bel_trans BV.out hu)
        have EU := Lib.hid (EX.out.below hu EX.out.lt)
        have SU := Lib.hid (SX.out.below hu SX.out.lt)
        clear hu BV EX SX DX ZX J1 J2
        have e0 := EU.out.cell 0
        have f0 := EU.out.frozen 0
        by_cases hq : zs = ds
        · have HT := Lib.hid (show prvB ls xv = true by rw [HP.out]; simp [hq])
          have EQ' : ∀ u, (Op.equalIn 10000 35 (.agg (bv zs).toArray) (.agg (bv ds).toArray)).run Tryd.prog u = .ok true u := fun u => by rw [EQ u, decide_eq_true hq]
          clear EQ
          subst hq
          go_wp2_with fail
          gi_wp2
          exact ⟨(bel_keeps BU.out).from _, Below.mono BU.out J4.out, ⟨⟨fun t ht => (List.mem_append.1 ht).elim (J0.out t) (fun h => by obtain rfl := List.mem_singleton.1 h; exact HT.out), SU.out, EU.out⟩, Nat.le_trans J4.out BU.out.size⟩, HBW.out.trans (BU.out.mono HBW.out.size)⟩
        · have HT := Lib.hid (show prvB ls xv = false by rw [HP.out]; simp [hq])
          have EQ' : ∀ u, (Op.equalIn 10000 35 (.agg (bv zs).toArray) (.agg (bv ds).toArray)).run Tryd.prog u = .ok false u := fun u => by rw [EQ u, decide_eq_false hq]
          clear EQ
          go_wp2_with fail
          gi_wp2
          exact ⟨((bel_keeps BU.out).trans (KeepsOthers.setCell _ _ _)).from _, ⟨rfl, ⟨⟨xv, hxv⟩, HT.out⟩, EU.out.set 0 _⟩, (HBW.out.trans (BU.out.mono HBW.out.size)).setCell (p := ⟨w.heap.size + 1, 0, none⟩) (by show w.heap.size ≤ w.heap.size + 1; omega) _⟩
      case done =>
        rintro D xs W hD rfl ⟨⟨⟨j0, j1, j2⟩, j4⟩, hB⟩ hK
        have H0 := Lib.hid (show e = 0 from he.out.det (.inl ⟨fun i hi => by unfold linB; rw [HA.out i (by have := HN.out; omega), j0 ⟨i, hi⟩ (List.mem_finRange _)]; rfl, rfl⟩))
        have HJ := Lib.hid j2
        have HBW := Lib.hid hB
        have e0 := j2.cell 0
        have f0 := j2.frozen 0
        have hne := Lib.hid (show D ≠ w.heap.size + 1 by have := E1.out.lt; omega)
        have hDw := Lib.hid (show w.heap.size ≤ D by have := B1.out.size; omega)
        have HKD := Lib.hid hK
        simp at e0 f0
        clear j0 j1 j2 j4 hB hK
        go_wp2_with fail
        have hK' : (W.setCell ⟨w.heap.size + 1, 0, none⟩ (.int .i64 0)).heap[D]? = some (.deferred (some [])) := (Below.heap_setCell W ⟨w.heap.size + 1, 0, none⟩ _ D hne.out).trans HKD.out
        refine ⟨by simp, .inl ⟨_, _, rfl, run_takeDeferred hK', ?_⟩⟩
        have e1 := cell_kept ((HJ.out.set 0 (.int .i64 0)).cell 0) (grownBy_putObj' _ D (.deferred none)) (fun r e => by cases e; exact ⟨_, hK', rfl⟩)
        refine ⟨.int .i64 0, ?_, by rw [H0.out], (HBW.out.setCell (p := ⟨w.heap.size + 1, 0, none⟩) (by show w.heap.size ≤ w.heap.size + 1; omega) _).trans (belowK_b (w := w) (Nat.le_refl _) _ D _ _ hDw.out hK' rfl rfl)⟩
        simp [results, Tryd.results16, go_sem, e1]
      case stop =>
        rintro D c' pre W hD hpre ⟨⟨rfl, ⟨t, ht⟩, h80⟩, hB⟩ hK
        have H80 := Lib.hid (show e = 80 from he.out.det (.inr ⟨⟨t.val, t.isLt, by unfold linB; rw [ht, Bool.and_false]⟩, rfl⟩))
        have hDw := Lib.hid (show w.heap.size ≤ D by have := B1.out.size; omega)
        gi_wp2
        refine ⟨by simp, .inl ⟨_, _, rfl, run_takeDeferred hK, ?_⟩⟩
        have e1 := cell_kept (h80.cell 0) (grownBy_putObj' _ D (.deferred none)) (fun r e => by cases e; exact ⟨_, hK, rfl⟩)
        refine ⟨.int .i64 80, ?_, by rw [H80.out], hB.trans (belowK_b (w := w) (Nat.le_refl _) _ D _ _ hDw.out hK rfl rfl)⟩
        simp [results, Tryd.results16, go_sem, e1]
end Go.Proofs.YtllcgehfmkmcdaaDoor
