/- disk.Read. -/
import Derived.Test.YtackklbifppfeaaDskBwd
import Derived.Test.YtackklbifppfeaaDskRWrY
import Derived.Test.YtackklbifppfeaaBlkz
namespace Go.Proofs.Ytackklbifppfeaa
open Go.RowKit Go.Shelf
set_option linter.unusedVariables false
set_option linter.unusedSimpArgs false
attribute [local go_sem] Oper.semAt_some

theorem blk_own {β : Type} {B b : Nat} {t : TypeId} (c : β → Array Value) : OwnFrom B (fun (s : β) W => Blk W b (c s) t) := by
  intro s X Y row h hg hr
  refine (hg.block b h.lt ?_).trans h
  intro e
  obtain ⟨_, o, ho, hc⟩ := hr b e.symm
  rw [show X.heap[b]? = _ from h] at ho; cases ho; cases hc
theorem srcW_own {β : Type} {B : Nat} (p : Option Addr) (m c : Nat) (zs : List Int) : OwnFrom B (fun (s : β) W => SrcW W p m c zs) := by
  intro s X Y row h hg hr
  rcases h with ⟨h1, h2 | ⟨b, off, rfl, hb, hc⟩⟩ | h
  · exact .inl ⟨h1, .inl h2⟩
  · refine .inl ⟨h1, .inr ⟨b, off, rfl, Nat.lt_of_lt_of_le hb hg.size, fun j hj => ?_⟩⟩
    refine (World.cell?_of_block (a := ⟨b, off + j, none⟩) (hg.block b hb ?_)).trans (hc j hj)
    intro e
    obtain ⟨_, o, ho, hcc⟩ := hr b e.symm
    have := hc j hj
    simp only [World.cell?, ho] at this
    cases o <;> simp_all [Obj.isCells]
  · exact .inr h
theorem blks_own {β : Type} {B : Nat} {l : List (Nat × Array Value × TypeId)} : OwnFrom B (fun (s : β) W => Blks W l) := by
  intro s X Y row h hg hr
  induction l with
  | nil => trivial
  | cons x l ih => exact ⟨blk_own (β := Unit) (B := B) (fun _ => x.2.1) () X Y row h.1 hg hr, ih h.2⟩
theorem srcW_set {w : World} {p : Option Addr} {m c b o : Nat} {v : Value} {zs : List Int} (h : SrcW w p m c zs) (hq : ∀ a, p = some a → b < a.block) : SrcW (w.setCell ⟨b, o, none⟩ v) p m c zs := by
  rcases h with ⟨h1, h2 | ⟨b', off, rfl, hb, hc⟩⟩ | h
  · exact .inl ⟨h1, .inl h2⟩
  · have := hq _ rfl
    exact .inl ⟨h1, .inr ⟨b', off, rfl, by simpa using hb, hc.set (by simp at this; omega)⟩⟩
  · exact .inr h
theorem bel_keeps {w w' : World} (h : Below w.heap.size w w') : KeepsOthers w w' := KeepsOthers.of_grownBy (row := none) ⟨h.os, h.tape, h.output, h.size, fun i hi _ => h.block i hi⟩ (by simp)
/-- what a read answers -/
def IsRd (bs : List Int) (w' : World) (e : Ending) : Prop := ∃ q c', e = .returned (.tuple #[.slice q bs.length c', .int .i64 0]) ∧ SrcW w' q bs.length c' bs ∧ bs.length ≤ c'

set_option maxRecDepth 100000 in
set_option maxHeartbeats 2000000 in
theorem read_in (k0 : Nat) (ps : Option Addr) (ns cs : Nat) (pp : Option Addr) (np cp : Nat) (left : Int) (st : Bool) (rs : List Rw) (ws : List Wt) (w : World) (hz : Hid (DskV w ps ns pp np left rs ws)) (hq : Hid (runB left st rs ws = true)) (hk0 : k0 < ns) (hk1 : ns ≤ 4096) (hm : Hid (∀ r ∈ rs, r.m = 128)) (hm2 : Hid (∀ x ∈ ws, x.row.m = 128)) :
    CallsIn Fence.wide 5 Try.prog 21 #[.agg (dskC ps ns cs pp np cp left st), .int .i64 k0] w fun e w' => IsRd (readR k0 (rs.getD k0 rw0) ws).bs w' e ∧ Below w.heap.size w w' := by
  obtain ⟨r0, hr0⟩ : ∃ r, rs.getD k0 rw0 = r := ⟨_, rfl⟩
  have HR0 := Lib.hid hr0
  rw [hr0]
  clear hr0
  have HC := Lib.hid (run_yes hq.out)
  have HQ := Lib.hid (show decide (0 ≤ (k0 : Int) ∧ (k0 : Int) < ns) = true by simp; omega)
  have m1 := hz.out.1.2.1
  have m2 := hz.out.2.1.2.1
  refine callsIn_of_wp_marks Try.func21 rfl trivial ?_ rfl
  simp only [Try.ntmps21, List.size_toArray, List.length_cons, List.length_nil, Nat.reduceAdd, Nat.reduceSub, Array.replicate_succ, Array.replicate_zero, List.push_toArray, List.append_toArray, List.nil_append, List.cons_append]
  gi_wp2
  obtain ⟨W0, hW0⟩ : ∃ W0, (((w.alloc (.cells (dskC ps ns cs pp np cp left st) 25)).alloc (.cells #[.int .i64 k0] 3)).alloc (.cells #[.slice none 0 0] 35)).alloc (.cells #[.int .i64 0] 28) = W0 := ⟨_, rfl⟩
  have HB0 := Lib.hid (show Blks W0 [(w.heap.size + 1 + 1 + 1, #[.int .i64 0], 28), (w.heap.size + 1 + 1, #[.slice none 0 0], 35), (w.heap.size + 1, #[.int .i64 k0], 3), (w.heap.size, (dskC ps ns cs pp np cp left st), 25)] by
    rw [← hW0]; have h := ((((Blks.nil w).box (dskC ps ns cs pp np cp left st) 25).box #[.int .i64 k0] 3).box #[.slice none 0 0] 35).box #[.int .i64 0] 28
    simp only [World.size_alloc] at h; exact h)
  have B0 := Lib.hid (show Below w.heap.size w W0 by rw [← hW0]; exact (((bel_alloc1 _ _).alloc (by simp) _).alloc (by simp; omega) _).alloc (by simp; omega) _)
  have hsz0 : w.heap.size + 1 + 1 + 1 < W0.heap.size := by rw [← hW0]; simp
  rw [hW0]
  clear hW0
  refine ⟨trivial, ?_⟩
  refine (callsIn_wide.2 (running_any ps ns cs pp np cp left st rs ws W0 (Lib.hid (hz.out.below B0.out)))).mono ?_; rintro e w1 ⟨rfl, hb⟩
  have HB1 := Lib.hid (HB0.out.below hb)
  have B1 := Lib.hid (B0.out.trans (hb.mono B0.out.size))
  have hsz1 := Nat.lt_of_lt_of_le hsz0 hb.size
  clear hb HB0 B0 hsz0
  obtain ⟨c0, c1, c2, c3, lb⟩ := blk4_facts HB1.out.2.2.2.1
  have k0c : w1.cell? ⟨w.heap.size + 1, 0, none⟩ = some (.int .i64 k0) := HB1.out.2.2.1.cell 0
  rw [HC.out]
  gi_wp2
  refine ⟨trivial, ?_⟩
  refine (callsIn_wide.2 (sector_q k0 ps ns cs pp np cp left st rs ws w1 (Lib.hid (hz.out.below B1.out)) true HQ)).mono ?_; rintro e w2 ⟨rfl, hb⟩
  have HB2 := Lib.hid (HB1.out.below hb)
  have B2 := Lib.hid (B1.out.trans (hb.mono B1.out.size))
  have hsz2 := Nat.lt_of_lt_of_le hsz1 hb.size
  clear hb HB1 B1 hsz1 c0 c1 c2 c3 lb k0c
  obtain ⟨c0, c1, c2, c3, lb⟩ := blk4_facts HB2.out.2.2.2.1
  gi_wp2
  refine ⟨trivial, ?_⟩
  refine (callsIn_wide.2 (backward_any pp np cp w2.heap.size w2 rfl)).mono ?_; rintro e w' ⟨rfl, rfl⟩
  gi_wp2
  obtain ⟨W1, hW1⟩ : ∃ W1, w2.alloc (.cells #[.slice pp np cp] 23) = W1 := ⟨_, rfl⟩
  have hs1 : W1.heap.size = w2.heap.size + 1 := by rw [← hW1]; simp
  have HB3 := Lib.hid (show Blks W1 [(w2.heap.size, #[.slice pp np cp], 23), (w.heap.size + 1 + 1 + 1, #[.int .i64 0], 28), (w.heap.size + 1 + 1, #[.slice none 0 0], 35), (w.heap.size + 1, #[.int .i64 k0], 3), (w.heap.size, (dskC ps ns cs pp np cp left st), 25)] by rw [← hW1]; exact HB2.out.box _ _)
  have B3 := Lib.hid (show Below w.heap.size w W1 by rw [← hW1]; exact B2.out.alloc (by omega) _)
  have hsz3 : w.heap.size + 1 + 1 + 1 < W1.heap.size := by omega
  rw [hW1]
  clear hW1 HB2 B2 c0 c1 c2 c3 lb
  have HS1 := Lib.hid hs1; clear hs1
  obtain ⟨L, hL⟩ : ∃ L, [(w.heap.size + 1 + 1 + 1, #[.int .i64 0], 28), (w.heap.size + 1 + 1, #[.slice none 0 0], 35), (w.heap.size + 1, #[.int .i64 k0], 3), (w.heap.size, (dskC ps ns cs pp np cp left st), 25)] = L := ⟨_, rfl⟩
  have HL := Lib.hid hL
  have B4 := Lib.hid (show Blks W1 L by rw [← hL]; exact HB3.out.2)
  have hcb := HB3.out.1.cell 0
  clear hL HB3
  have HW : ∀ x : Fin ws.length, WtOk w (wAt ws x) := fun x => hz.out.2.1.2.2.1 _ (getD_mem x.isLt)
  have HWW := Lib.hid HW
  have HM2 := Lib.hid (show ∀ x : Fin ws.length, (wAt ws x).row.m = 128 from fun x => hm2.out _ (getD_mem (d := wt0) x.isLt))
  clear HW
  refine wpIn_rangeFunc_ownH rfl (by omega) (gf := 35) (lb := #[.pointer (some ⟨w2.heap.size, 0, none⟩)]) rfl trivial (enters_of Try.func35 (by kernel_rfl) rfl)
    (backward_stops pp np cp ws 4 (by omega) w2.heap.size W1 (by rw [HS1.out]; omega) hcb (Lib.hid (hz.out.2.1.below B3.out))) belowK_t (belowK_b (Nat.le_refl _)) (Below.refl _ _) (fun _ => rfl)
    (fun pre W => ((noneAt k0 ws pre ∧ Blks W L) ∧ W1.heap.size ≤ W.heap.size) ∧ Below w.heap.size w W)
    (fun c pre W => (c = .ret ∧ ∃ r : Rw, (pre <+: revF ws.length → readR k0 r0 ws = r) ∧ ∃ q c', (Blk W (w.heap.size + 1 + 1) #[.slice q r.bs.length c'] 35 ∧ Blk W (w.heap.size + 1 + 1 + 1) #[.int .i64 0] 28) ∧ SrcW W q r.bs.length c' r.bs ∧ r.bs.length ≤ c') ∧ Below w.heap.size w W)
    (OwnFrom.and (OwnFrom.and (fun s X Y row h hg hr => ⟨h.1, blks_own s X Y row h.2 hg hr⟩) (fun s X Y row h hg hr => Nat.le_trans h hg.size)) (ownFrom_below (Nat.le_refl _) (by omega)))
    (fun c => OwnFrom.and (fun s X Y row h hg hr => by
      obtain ⟨h1, r, h2, q, c', ⟨h3, h4⟩, h5⟩ := h
      exact ⟨h1, r, h2, q, c', ⟨blk_own (B := W1.heap.size) (fun _ => #[.slice q r.bs.length c']) s X Y row h3 hg hr, blk_own (B := W1.heap.size) (fun _ => #[.int .i64 0]) s X Y row h4 hg hr⟩, srcW_own (B := W1.heap.size) q _ c' _ s X Y row h5.1 hg hr, h5.2⟩) (ownFrom_below (Nat.le_refl _) (by omega)))
    ⟨⟨⟨fun t ht => by simp at ht, B4.out⟩, Nat.le_refl _⟩, B3.out⟩
    (fun x a' W => ∃ Bc, w.heap.size + 1 + 1 + 1 < Bc ∧ Blk W Bc #[.int .i64 (wAt ws x).pos, .slice (wAt ws x).row.p (wAt ws x).row.m (wAt ws x).row.c] 54 ∧ a' = { tmps := #[.agg (dskC ps ns cs pp np cp left st), .int .i64 k0, .pointer (some ⟨w.heap.size, 0, none⟩), .pointer (some ⟨w.heap.size + 1, 0, none⟩), .pointer (some ⟨w.heap.size + 1 + 1, 0, none⟩), .pointer (some ⟨w.heap.size + 1 + 1 + 1, 0, none⟩), undef, .pointer (some ⟨Bc, 0, none⟩),
      .agg (dskC ps ns cs pp np cp left st), .int .i64 0, .bool false, .bool false, .agg (dskC ps ns cs pp np cp left st), .int .i64 k0, .bool true, .bool false, .bool false, .pointer (some ⟨w.heap.size, 1, none⟩), .slice pp np cp, .func (.func 35) #[] #[.pointer (some ⟨w2.heap.size, 0, none⟩)], .int .i64 (x.val : Int), .agg #[.int .i64 (wAt ws x).pos, .slice (wAt ws x).row.p (wAt ws x).row.m (wAt ws x).row.c], undef, undef, undef, undef, undef, undef, undef, undef, undef, undef, undef, undef, undef], defers := [] })
    (fun x a' s X Y row h hg hr => by
      obtain ⟨Bc, h1, h2, h3⟩ := h
      exact ⟨Bc, h1, (blk_own (β := Unit) (B := W1.heap.size) fun _ => _) s X Y row h2 hg hr, h3⟩) ?assign ?body ?done ?stop
  case assign =>
    rintro l pre x W K ⟨⟨⟨j1, j2⟩, j4⟩, hB⟩ hK
    have hW := Nat.lt_of_lt_of_le hsz3 j4
    gi_wp2
    exact hK _ _ ((KeepsOthers.alloc _ _).from _) ((Below.refl _ _).alloc j4 _) ⟨⟨⟨j1, j2.alloc _⟩, Nat.le_trans j4 (by simp)⟩, hB.alloc hB.size _⟩ ⟨W.heap.size, hW, Blk.new _ _ _, rfl⟩
  case body =>
    rintro l pre x a' W hl hr ⟨⟨⟨j1, j2⟩, j4⟩, hB⟩ ⟨Bc, hBc, jc, rfl⟩ hlt
    have HX := Lib.hid ((HWW.out x).below hB)
    have HM := Lib.hid (HM2.out x)
    have HP := Lib.hid (fun (h : (pre ++ [x]) <+: revF ws.length) (hx : (wAt ws x).pos = (k0 : Int)) => none_stop (r0 := r0) h j1 hx)
    have HQ2 := Lib.hid (fun (hx : ¬ (wAt ws x).pos = (k0 : Int)) => show noneAt k0 ws (pre ++ [x]) from fun t ht => by
      rcases List.mem_append.1 ht with h | h
      · exact j1 t h
      · obtain rfl : t = x := by simpa using h
        exact hx)
    obtain ⟨y, hy⟩ : ∃ y, wAt ws x = y := ⟨_, rfl⟩
    rw [hy] at HX HM HP HQ2 jc ⊢
    clear hy
    obtain ⟨po, ⟨xp, xm, xc, xb⟩⟩ := y
    have hj2 := j2
    rw [← HL.out] at hj2
    have c0 := jc.cell 0
    have c1 := jc.cell 1
    have k0c := hj2.2.2.1.cell 0
    simp at c0 c1 k0c
    have J2 := Lib.hid j2; have J4 := Lib.hid j4; have HB := Lib.hid hB; have HJ := Lib.hid hj2
    clear j1 j2 j4 jc hB hl hr hlt hj2
    dsimp only at HX HM HP HQ2
    by_cases he : po = (k0 : Int)
    · have hsrc := Lib.hid HX.out.2.1
      have hxm := HM.out
      have HP' := Lib.hid (fun h => HP.out h he)
      have hml := Lib.hid hsrc.out.len
      subst he
      clear HP HQ2 HX HM
      (try dsimp only at hxm)
      subst hxm
      gi_wp2
      refine ⟨trivial, ?_⟩
      refine (CallsIn.inRound l (callsIn_wide.2 (clone_any xp 128 xc xb W hsrc (by omega)))).mono ?_
      rintro e w3 ⟨⟨q, c', rfl, h4, h6, h7⟩, hb⟩
      have HB4 := HJ.out.below hb
      have f4 := HB4.2.1.frozen 0
      have g4 := HB4.2.1.cell 0
      have f5 := HB4.1.frozen 0
      have g5 := HB4.1.cell 0
      simp at g4 g5
      have H4 := Lib.hid h4
      have HBL := Lib.hid HB4
      have HO := Lib.hid hb
      have HBw := Lib.hid (HB.out.trans (hb.mono HB.out.size))
      clear HB4 h4 hb
      have hsW : w.heap.size + 1 + 1 + 1 < W.heap.size := Nat.lt_of_lt_of_le hsz3 J4.out
      have H6 := Lib.hid (show ∀ a, q = some a → w.heap.size + 1 + 1 + 1 < a.block from fun a ha => Nat.lt_of_lt_of_le hsW (h6 a ha))
      clear h6
      gi_wp2
      refine ⟨((bel_keeps HO.out).trans ((KeepsOthers.setCell _ _ _).trans (KeepsOthers.setCell _ _ _))).from _, ⟨rfl, ⟨xp, 128, xc, xb⟩, HP'.out, q, c', ⟨?_, ?_⟩, ?_, h7⟩, ?_⟩
      · exact (HBL.out.2.1.set 0 _).other 0 _ (by simp)
      · exact (HBL.out.1.other 0 _ (by simp)).set 0 _
      · exact srcW_set (srcW_set H4.out (fun a ha => by have := H6.out a ha; omega)) (fun a ha => by have := H6.out a ha; omega)
      · exact (HBw.out.setCell (p := ⟨w.heap.size + 1 + 1, 0, none⟩) (by show w.heap.size ≤ w.heap.size + 1 + 1; omega) _).setCell (p := ⟨w.heap.size + 1 + 1 + 1, 0, none⟩) (by show w.heap.size ≤ w.heap.size + 1 + 1 + 1; omega) _
    · have he' : (po == (k0 : Int)) = false := by simp [he]
      have HN' := Lib.hid (HQ2.out he)
      clear HP HQ2 HX HM
      gi_wp2
      exact ⟨(KeepsOthers.refl _).from _, Below.refl _ _, ⟨⟨HN'.out, J2.out⟩, J4.out⟩, HB.out⟩
  case done =>
    rintro D ys W hD rfl ⟨⟨⟨j1, j2⟩, j4⟩, hB⟩ hK
    have HE := Lib.hid (none_all (r0 := r0) j1)
    have hj2 := j2
    rw [← HL.out] at hj2
    have HJ := Lib.hid hj2
    have HK := Lib.hid hK
    have J4 := Lib.hid j4
    have HBw := Lib.hid hB
    clear j1 j2 hj2 hK j4 hB
    obtain ⟨c0, c1, c2, c3, lb⟩ := blk4_facts HJ.out.2.2.2.1
    have k0c := HJ.out.2.2.1.cell 0
    simp at k0c
    obtain ⟨b', off, hp, hb', hcell, hrw⟩ := (hz.out.1.below HBw.out).at hk0
    rw [HR0.out] at hcell hrw
    subst hp
    have HM := Lib.hid (show r0.m = 128 by rw [← HR0.out]; exact hm.out _ (getD_mem (by have := hz.out.1.1; omega)))
    have HRW := Lib.hid hrw.1
    have hml := Lib.hid hrw.1.len
    clear hrw
    obtain ⟨xp, xm, xc, xb⟩ := r0
    dsimp only [Rw.v] at hcell
    have hxm := HM.out
    (try dsimp only at hxm)
    subst hxm
    clear HM
    gi_wp2
    refine ⟨trivial, ?_⟩
    refine (callsIn_wide.2 (clone_any xp 128 xc xb W HRW (by omega))).mono ?_
    rintro e w3 ⟨⟨q, c', rfl, h4, h6, h7⟩, hb⟩
    have HB4 := HJ.out.below hb
    have f4 := HB4.2.1.frozen 0
    have g4 := HB4.2.1.cell 0
    have f5 := HB4.1.frozen 0
    have g5 := HB4.1.cell 0
    simp at g4 g5
    have H4 := Lib.hid h4
    have HBL := Lib.hid HB4
    have HO := Lib.hid hb
    have HBx := Lib.hid (HBw.out.trans (hb.mono HBw.out.size))
    have hsW : w.heap.size + 1 + 1 + 1 < W.heap.size := Nat.lt_of_lt_of_le hsz3 J4.out
    have H6 := Lib.hid (show ∀ a, q = some a → w.heap.size + 1 + 1 + 1 < a.block from fun a ha => Nat.lt_of_lt_of_le hsW (h6 a ha))
    clear HB4 h4 hb h6 c0 c1 c2 c3 lb k0c hcell
    gi_wp2
    have X1 := (HBL.out.2.1.set 0 (.slice q xb.length c')).other (b' := w.heap.size + 1 + 1 + 1) 0 (.int .i64 0) (by simp)
    have X2 := (HBL.out.1.other (b' := w.heap.size + 1 + 1) 0 (.slice q xb.length c') (by simp)).set 0 (.int .i64 0)
    have X3 := srcW_set (b := w.heap.size + 1 + 1 + 1) (o := 0) (v := .int .i64 0) (srcW_set (b := w.heap.size + 1 + 1) (o := 0) (v := .slice q xb.length c') H4.out (fun a ha => by have := H6.out a ha; omega)) (fun a ha => by have := H6.out a ha; omega)
    have X4 := (HBx.out.setCell (p := ⟨w.heap.size + 1 + 1, 0, none⟩) (by show w.heap.size ≤ w.heap.size + 1 + 1; omega) (.slice q xb.length c')).setCell (p := ⟨w.heap.size + 1 + 1 + 1, 0, none⟩) (by show w.heap.size ≤ w.heap.size + 1 + 1 + 1; omega) (.int .i64 0)
    have X5 := (bel_keeps HO.out).trans ((KeepsOthers.setCell w3 ⟨w.heap.size + 1 + 1, 0, none⟩ (.slice q xb.length c')).trans (KeepsOthers.setCell _ ⟨w.heap.size + 1 + 1 + 1, 0, none⟩ (.int .i64 0)))
    have X6 := hsz3
    generalize (w3.setCell ⟨w.heap.size + 1 + 1, 0, none⟩ (.slice q xb.length c')).setCell ⟨w.heap.size + 1 + 1 + 1, 0, none⟩ (.int .i64 0) = W2 at X1 X2 X3 X4 X5 ⊢
    have hK' := X5.same D _ HK.out rfl
    refine ⟨by simp, .inl ⟨_, _, rfl, run_takeDeferred hK', ?_⟩⟩
    have e0 := cell_kept (X1.cell 0) (grownBy_putObj' _ D (.deferred none)) (fun r e => by cases e; exact ⟨_, hK', rfl⟩)
    have e1 := cell_kept (X2.cell 0) (grownBy_putObj' _ D (.deferred none)) (fun r e => by cases e; exact ⟨_, hK', rfl⟩)
    have e2 := srcW_own (β := Unit) (B := 0) q xb.length c' xb () _ _ _ X3 (grownBy_putObj' _ D (.deferred none)) (fun r e => by cases e; exact ⟨by omega, _, hK', rfl⟩)
    refine ⟨.tuple #[.slice q xb.length c', .int .i64 0], ?_, ⟨q, c', by rw [HE.out], by rw [HE.out]; exact e2, by rw [HE.out]; exact h7⟩, X4.trans (belowK_b (w := w) (Nat.le_refl _) _ D _ _ (by omega) hK' rfl rfl)⟩
    simp [results, Try.f21, go_sem, e0, e1]
  case stop =>
    rintro D c pre W hD hpre ⟨⟨rfl, r, hv, q, c', ⟨j2, j3⟩, j4, j5⟩, hB⟩ hK
    have HE := Lib.hid (hv hpre)
    clear hv
    gi_wp2
    refine ⟨by simp, .inl ⟨_, _, rfl, run_takeDeferred hK, ?_⟩⟩
    have e0 := cell_kept (j2.cell 0) (grownBy_putObj' _ D (.deferred none)) (fun r e => by cases e; exact ⟨_, hK, rfl⟩)
    have e1 := cell_kept (j3.cell 0) (grownBy_putObj' _ D (.deferred none)) (fun r e => by cases e; exact ⟨_, hK, rfl⟩)
    have e2 := srcW_own (β := Unit) (B := 0) q r.bs.length c' r.bs () _ _ _ j4 (grownBy_putObj' _ D (.deferred none)) (fun r e => by cases e; exact ⟨by omega, _, hK, rfl⟩)
    refine ⟨.tuple #[.slice q r.bs.length c', .int .i64 0], ?_, ⟨q, c', by rw [HE.out], by rw [HE.out]; exact e2, by rw [HE.out]; exact j5⟩, hB.trans (belowK_b (w := w) (Nat.le_refl _) _ D _ _ (by omega) hK rfl rfl)⟩
    simp [results, Try.f21, go_sem, e0, e1]

theorem read_yes (k0 : Nat) (ps : Option Addr) (ns cs : Nat) (pp : Option Addr) (np cp : Nat) (left : Int) (st : Bool) (rs : List Rw) (ws : List Wt) (w : World) (hz : Hid (DskV w ps ns pp np left rs ws)) (hq : Hid (runB left st rs ws = true)) (hk0 : k0 < ns) (hk1 : ns ≤ 4096) (hm : Hid (∀ r ∈ rs, r.m = 128)) (hm2 : Hid (∀ x ∈ ws, x.row.m = 128)) :
    Calls Try.prog 21 #[.agg (dskC ps ns cs pp np cp left st), .int .i64 k0] w fun e w' => IsRd (readR k0 (rs.getD k0 rw0) ws).bs w' e ∧ Below w.heap.size w w' :=
  callsIn_wide.1 (read_in k0 ps ns cs pp np cp left st rs ws w hz hq hk0 hk1 hm hm2)
end Go.Proofs.Ytackklbifppfeaa
