/- For every sequence of writes and syncs on a new disk of four sectors that stops after some writes, each half of a sector that is read after a restart has the byte of the last write to it that was performed. No condition. -/
import Derived.Test.YtackklbifppfeaaDskHis
import Derived.Deep.DeepCutAuto
namespace Go.Proofs.Ytackklbifppfeaa
open Go.ChangeShapes Go.WideShapes Go.ChangeAt Go.RowKit Go.WideElems
set_option linter.unusedVariables false
set_option linter.unusedSimpArgs false

theorem wrap_u8 {a : Int} (h0 : 0 ≤ a) (h1 : a ≤ 255) : IntKind.i64.wrap a = a := by rw [IntKind.wrap_i64]; omega
theorem ActsV.lt {w : World} {p : Option Addr} {n : Nat} {qs : List Ac} (h : ActsV w p n qs) (h0 : n ≠ 0) {a : Addr} (ha : p = some a) : a.block < w.heap.size := by
  obtain ⟨h1, h2, h4, h3 | ⟨b', off, rfl, hb, hc⟩⟩ := h
  · exact absurd h3 h0
  · cases ha; exact hb
theorem ActsV.set {w : World} {p : Option Addr} {n b o : Nat} {v : Value} {qs : List Ac} (h : ActsV w p n qs) (hs : n ≠ 0 → ∀ a, p = some a → a.block ≠ b) : ActsV (w.setCell ⟨b, o, none⟩ v) p n qs := by
  obtain ⟨h1, h2, h4, h3⟩ := h
  refine ⟨h1, h2, h4, ?_⟩
  by_cases h0 : n = 0
  · exact .inl h0
  rcases h3 with h3 | ⟨b', off, rfl, hb, hc⟩
  · exact .inl h3
  · have hne : b' ≠ b := hs h0 _ rfl
    have hk : ∀ j, (w.setCell ⟨b, o, none⟩ v).cell? ⟨b', j, none⟩ = w.cell? ⟨b', j, none⟩ := fun j => World.cell?_of_block (a := ⟨b', j, none⟩) (Below.heap_setCell w ⟨b, o, none⟩ v b' hne)
    exact .inr ⟨b', off, rfl, by simpa using hb, fun j hj => ⟨(hk _).trans (hc j hj).1, (hk _).trans (hc j hj).2.1, (hk _).trans (hc j hj).2.2⟩⟩
def Seps (d : Dk) (a b : Nat) : Prop := DkSep d a ∧ DkSep d b ∧ DkSep d (b + 1) ∧ DkSep d (b + 1 + 1)
theorem inv_start {d0 d1 : Dk} {lf : Int} (h : IsFresh 4 d0) (hd : d1 = d0.stop lf) (h0 : 0 ≤ lf) (h1 : lf ≤ 255) : Inv d1 [] lf.toNat [0, 0, 0, 0] [0, 0, 0, 0] [0, 0, 0, 0] := by
  subst hd
  refine ⟨stop_run (fresh_run h (by omega) (by omega)) h0 (by omega), h.2.2.2.1, by show lf = _; omega, ?_, ?_, rfl, rfl⟩
  · show d0.ws.map pbs = _
    rw [h.2.2.1]; rfl
  · show Shape d0.bs _ _
    rw [fresh_bs h]; exact shape_new
set_option maxRecDepth 100000 in
set_option maxHeartbeats 4000000 in
theorem diskHistory_walk (sp : Option Addr) (sn sc : Nat) (qs : List Ac) (lf : Int) (w : World) (SA : Hid (ActsV w sp sn qs)) (HA : Hid (∀ a, sp = some a → sn ≠ 0 → a.block < w.heap.size)) (hl0 : 0 ≤ lf) (hl1 : lf ≤ 255) : Calls Try.prog 6 #[.slice sp sn sc, .int .u8 lf] w fun e w' => e = .returned (.bool true) ∧ Below w.heap.size w w' := by
  go_enter Try.func6, Try.ntmps6
  have BB := Lib.hid (Below.refl w.heap.size w)
  go_upto_region 1 with fail
  go_wp2_with fail
  refine (sane_any _).mono ?_
  rintro e W1 ⟨rfl, hb⟩
  replace SA := Lib.hid (SA.out.below hb)
  replace BB := Lib.hid (BB.out.trans ((hb).mono BB.out.size))
  clear hb
  by_cases hn : 40 < sn
  case pos =>
    go_wp2_with fail
    go_ret
    exact ⟨rfl, BB.out⟩
  case neg =>
    go_wp2_with fail
    refine (new_L 4 (by omega) (by omega) _).mono ?_
    rintro e W2 ⟨⟨d0, rfl, hd, hf⟩, hb⟩
    replace SA := Lib.hid (SA.out.below hb)
    replace BB := Lib.hid (BB.out.trans ((hb).mono BB.out.size))
    clear hb
    have D0 := Lib.hid hd
    have F0 := Lib.hid hf
    clear hd hf
    have SD5 := Lib.hid (D0.out.sep (Nat.le_refl _))
    have hw5 := BB.out.size
    have hb := bel_alloc1 W2 (.cells d0.c 25)
    replace SA := Lib.hid (SA.out.below hb)
    replace D0 := Lib.hid (D0.out.below hb)
    replace BB := Lib.hid (BB.out.trans ((hb).mono BB.out.size))
    clear hb
    have V5 := Lib.hid (Blk.new W2 d0.c 25)
    go_upto_region 6 with fail
    generalize World.alloc W2 _ = W3 at BB SA D0 V5 ⊢
    generalize W2.heap.size = nV5 at V5 SD5 hw5 ⊢
    have Q0 := Lib.hid (fresh_run F0.out (by omega) (by omega))
    have HWL := Lib.hid (wrap_u8 hl0 hl1)
    have cV50 := V5.out.cell 0
    have cV51 := V5.out.cell 1
    have cV52 := V5.out.cell 2
    have cV53 := V5.out.cell 3
    have lV5 := V5.out.lt
    go_wp2_with fail
    refine (stop_L d0 lf _ D0 Q0 (by omega)).mono ?_
    rintro e W4 ⟨rfl, hb⟩
    replace SA := Lib.hid (SA.out.below hb)
    replace D0 := Lib.hid (D0.out.below hb)
    replace V5 := Lib.hid (V5.out.below hb V5.out.lt)
    replace BB := Lib.hid (BB.out.trans ((hb).mono BB.out.size))
    clear hb
    clear cV50 cV51 cV52 cV53 lV5
    obtain ⟨d1, hd1⟩ : ∃ d1, d1 = d0.stop lf := ⟨_, rfl⟩
    have F1 := Lib.hid hd1
    have D1 := Lib.hid (show DkOk _ d1 by rw [F1.out]; exact D0.out.stop (k := lf) ⟨by omega, by omega⟩)
    have SD1 := Lib.hid (show DkSep d1 nV5 by rw [F1.out]; exact SD5.out.stop)
    clear hd1
    have f0 := V5.out.frozen 0; have f1 := V5.out.frozen 1; have f2 := V5.out.frozen 2; have f3 := V5.out.frozen 3
    obtain ⟨c0, c1, c2, c3, lb⟩ := blk4_facts V5.out
    have X5 := (((((V5.out).set 0 (.slice d0.ps d0.ns d0.cs)).set 1 (.slice d0.pp d0.np d0.cp)).set 2 (.int .i64 lf)).set 3 (.bool d0.st))
    have XD := (((((D1.out).set (o := 0) (v := (.slice d0.ps d0.ns d0.cs)) SD1.out).set (o := 1) (v := (.slice d0.pp d0.np d0.cp)) SD1.out).set (o := 2) (v := (.int .i64 lf)) SD1.out).set (o := 3) (v := (.bool d0.st)) SD1.out)
    have XB := (((((BB.out).setCell (p := ⟨nV5, 0, none⟩) hw5 (.slice d0.ps d0.ns d0.cs)).setCell (p := ⟨nV5, 1, none⟩) hw5 (.slice d0.pp d0.np d0.cp)).setCell (p := ⟨nV5, 2, none⟩) hw5 (.int .i64 lf)).setCell (p := ⟨nV5, 3, none⟩) hw5 (.bool d0.st))
    have XS := (((((SA.out).set (o := 0) (v := (.slice d0.ps d0.ns d0.cs)) (b := nV5) (fun h a ha => by have := HA.out a ha h; omega)).set (o := 1) (v := (.slice d0.pp d0.np d0.cp)) (b := nV5) (fun h a ha => by have := HA.out a ha h; omega)).set (o := 2) (v := (.int .i64 lf)) (b := nV5) (fun h a ha => by have := HA.out a ha h; omega)).set (o := 3) (v := (.bool d0.st)) (b := nV5) (fun h a ha => by have := HA.out a ha h; omega))
    go_upto_region 7 with fail
    generalize ((((W4.setCell ⟨nV5, 0, none⟩ (.slice d0.ps d0.ns d0.cs)).setCell ⟨nV5, 1, none⟩ (.slice d0.pp d0.np d0.cp)).setCell ⟨nV5, 2, none⟩ (.int .i64 lf)).setCell ⟨nV5, 3, none⟩ (.bool d0.st)) = W40 at X5 XD XB XS ⊢
    clear V5 D0 BB SA f0 f1 f2 f3 c0 c1 c2 c3 lb D1 SD5
    have V5 := Lib.hid (show Blk W40 nV5 d1.c 25 by rw [F1.out]; exact X5)
    have D1 := Lib.hid XD
    have BB := Lib.hid XB
    have SA := Lib.hid XS
    clear X5 XD XB XS
    have IV := Lib.hid (inv_start F0.out F1.out hl0 hl1)
    go_upto_region 10 with fail
    have b3 := ((bel_alloc1 W40 (.cells #[.int .u8 0, .int .u8 0, .int .u8 0, .int .u8 0] 44)).alloc (by simp) (.cells #[.int .u8 0, .int .u8 0, .int .u8 0, .int .u8 0] 44)).alloc (by simp; omega) (.cells #[.int .u8 0, .int .u8 0, .int .u8 0, .int .u8 0] 44)
    have V8' := Blk.new W40 #[.int .u8 0, .int .u8 0, .int .u8 0, .int .u8 0] 44
    have V9' := Blk.new (W40.alloc (.cells #[.int .u8 0, .int .u8 0, .int .u8 0, .int .u8 0] 44)) #[.int .u8 0, .int .u8 0, .int .u8 0, .int .u8 0] 44
    have V10' := Blk.new ((W40.alloc (.cells #[.int .u8 0, .int .u8 0, .int .u8 0, .int .u8 0] 44)).alloc (.cells #[.int .u8 0, .int .u8 0, .int .u8 0, .int .u8 0] 44)) #[.int .u8 0, .int .u8 0, .int .u8 0, .int .u8 0] 44
    rw [World.size_alloc] at V9'
    rw [World.size_alloc, World.size_alloc] at V10'
    have V8 := Lib.hid ((V8'.alloc (.cells #[.int .u8 0, .int .u8 0, .int .u8 0, .int .u8 0] 44)).alloc (.cells #[.int .u8 0, .int .u8 0, .int .u8 0, .int .u8 0] 44))
    have V9 := Lib.hid (V9'.alloc (.cells #[.int .u8 0, .int .u8 0, .int .u8 0, .int .u8 0] 44))
    have V10 := Lib.hid V10'
    have E8 := Lib.hid (D1.out.sep (b := W40.heap.size) (Nat.le_refl _))
    have E9 := Lib.hid (D1.out.sep (b := W40.heap.size + 1) (by omega))
    have E10 := Lib.hid (D1.out.sep (b := W40.heap.size + 1 + 1) (by omega))
    have hw8 := BB.out.size
    have h58 := V5.out.lt
    have hsz : W40.heap.size + 1 + 1 + 1 = (((W40.alloc (.cells #[.int .u8 0, .int .u8 0, .int .u8 0, .int .u8 0] 44)).alloc (.cells #[.int .u8 0, .int .u8 0, .int .u8 0, .int .u8 0] 44)).alloc (.cells #[.int .u8 0, .int .u8 0, .int .u8 0, .int .u8 0] 44)).heap.size := by simp
    replace V5 := Lib.hid (V5.out.below b3 V5.out.lt)
    replace D1 := Lib.hid (D1.out.below b3)
    replace SA := Lib.hid (SA.out.below b3)
    replace BB := Lib.hid (BB.out.trans (b3.mono BB.out.size))
    clear b3 V8' V9' V10'
    generalize ((W40.alloc (.cells #[.int .u8 0, .int .u8 0, .int .u8 0, .int .u8 0] 44)).alloc (.cells #[.int .u8 0, .int .u8 0, .int .u8 0, .int .u8 0] 44)).alloc (.cells #[.int .u8 0, .int .u8 0, .int .u8 0, .int .u8 0] 44) = W43 at V5 V8 V9 V10 D1 SA BB hsz ⊢
    generalize W40.heap.size = n8 at V8 V9 V10 E8 E9 E10 hw8 h58 hsz ⊢
    have HSZ := Lib.hid hsz
    clear hsz
    have hB : n8 + 1 + 1 + 1 ≤ W43.heap.size := by have := HSZ.out; omega
    have OW := Lib.hid (ownA_empty W43 W43.heap.size (Nat.le_refl _))
    have SV0 := Lib.hid (show SepV d1 (.slice (some ⟨W43.heap.size, 0, none⟩) 0 0) from fun g hg => by
      have e : W43.heap.size = g := by simpa [Value.ownBlock] using hg
      exact D1.out.sep (by omega))
    have hb4 := bel_alloc1 W43 (.cells #[] 46)
    replace V5 := Lib.hid (V5.out.below hb4 V5.out.lt)
    replace V8 := Lib.hid (V8.out.below hb4 V8.out.lt)
    replace V9 := Lib.hid (V9.out.below hb4 V9.out.lt)
    replace V10 := Lib.hid (V10.out.below hb4 V10.out.lt)
    replace D1 := Lib.hid (D1.out.below hb4)
    replace SA := Lib.hid (SA.out.below hb4)
    replace BB := Lib.hid (BB.out.trans (hb4.mono BB.out.size))
    have hB2 : W43.heap.size ≤ (W43.alloc (.cells #[] 46)).heap.size := hb4.size
    clear hb4
    go_upto_region 13 with fail
    obtain ⟨B, hBn⟩ : ∃ B, W43.heap.size = B := ⟨_, rfl⟩
    rw [hBn] at OW SV0 hB hB2 ⊢
    have hB8 : n8 + 1 + 1 < B := by omega
    clear hBn HSZ hB
    generalize World.alloc W43 _ = W44 at V5 V8 V9 V10 D1 SA BB OW hB2 ⊢
    go_wp2_with fail
    go_loopw [11, 12, 13] (fun v r i wr => ∃ (k : Nat) (d : Dk) (wt : List Ac) (room : Nat) (fs ss ls : List Int) (p : Option Addr) (cap : Nat), k ≤ sn ∧ i = .int .i64 k ∧ r = .int .i64 room ∧ v = .slice p wt.length cap ∧ Hid (OwnA wr B (.slice p wt.length cap) wt) ∧ Hid (Inv d wt room fs ss ls) ∧ Hid (∀ a ∈ wt, AcOk a) ∧ wt.length ≤ k ∧ room ≤ 255 ∧ Hid (Blk wr nV5 d.c 25) ∧ Hid (Blk wr n8 (A4 ls) 44) ∧ Hid (Blk wr (n8 + 1) (A4 fs) 44) ∧ Hid (Blk wr (n8 + 1 + 1) (A4 ss) 44) ∧ Hid (DkOk wr d) ∧ Hid (Seps d nV5 n8) ∧ Hid (SepV d (.slice p wt.length cap)) ∧ Hid (ActsV wr sp sn qs) ∧ B ≤ wr.heap.size ∧ Hid (Below w.heap.size w wr)) (fun _ _ i _ => sn - (intOf i).toNat)
    case atStart => exact ⟨0, d1, [], lf.toNat, [0, 0, 0, 0], [0, 0, 0, 0], [0, 0, 0, 0], _, 0, Nat.zero_le _, rfl, by rw [Int.toNat_of_nonneg hl0], rfl, OW, IV, Lib.hid (fun a ha => (List.not_mem_nil ha).elim), Nat.le_refl _, by omega, V5, V8, V9, V10, D1, Lib.hid ⟨SD1.out, E8.out, E9.out, E10.out⟩, SV0, SA, hB2, BB⟩
    case round =>
      obtain ⟨k, d, wt, room, fs, ss, ls, p, cap, hk, rfl, rfl, rfl, OWx, IVx, AOK, hwk, hrm, V5x, V8x, V9x, V10x, Dx, SEP, SV, SAx, hBx, BBx⟩ := hrel
      clear V5 V8 V9 V10 D1 SA BB OW hB2 IV SD1 E8 E9 E10 F0 F1 SV0
      have V5 := V5x; have V8 := V8x; have V9 := V9x; have V10 := V10x; have D := Dx; have SA := SAx; have BB := BBx; have OW := OWx; have IV := IVx
      clear V5x V8x V9x V10x Dx SAx BBx OWx IVx
      by_cases hlt : k < sn
      case pos =>
        obtain ⟨ba, oa, hsp, hba, ha0, ha1, ha2, haok⟩ := SA.out.at hlt
        obtain ⟨⟨asy, apos, abyt⟩, hx⟩ : ∃ y, qs.getD k ac0 = y := ⟨_, rfl⟩
        rw [hx] at ha0 ha1 ha2 haok
        dsimp only at ha0 ha1 ha2
        clear hx
        subst hsp
        have hq4 := q4_lt ⟨asy, apos, abyt⟩
        have HQI := Lib.hid (q4_int ⟨asy, apos, abyt⟩)
        obtain ⟨qq, hqq⟩ : ∃ q, q4 ⟨asy, apos, abyt⟩ = q := ⟨_, rfl⟩
        rw [hqq] at hq4 HQI
        have HQQ := Lib.hid hqq
        clear hqq
        have hp0 : 0 ≤ apos := haok.1.1
        have hp1 : apos ≤ 255 := haok.1.2
        have hb0 : 0 ≤ abyt := haok.2.1
        have hb255 : abyt ≤ 255 := haok.2.2
        have HTM := Lib.hid (show apos.tmod 4 = (qq : Int) by rw [Int.tmod_eq_emod_of_nonneg hp0]; exact HQI.out)
        have HWR := Lib.hid (wrap_u8 (show (0 : Int) ≤ (qq : Int) by omega) (by omega))
        have HAO := Lib.hid haok
        clear haok
        have hb := bel_alloc1 wr (.cells #[.bool asy, .int .u8 apos, .int .u8 abyt] 46)
        replace V5 := Lib.hid (V5.out.below hb V5.out.lt)
        replace V8 := Lib.hid (V8.out.below hb V8.out.lt)
        replace V9 := Lib.hid (V9.out.below hb V9.out.lt)
        replace V10 := Lib.hid (V10.out.below hb V10.out.lt)
        replace D := Lib.hid (D.out.below hb)
        replace SA := Lib.hid (SA.out.below hb)
        replace OW := Lib.hid (OW.out.below hb)
        replace BB := Lib.hid (BB.out.trans ((hb).mono BB.out.size))
        clear hb
        have V14 := Lib.hid (Blk.new wr #[.bool asy, .int .u8 apos, .int .u8 abyt] 46)
        go_upto_region 16 with fail
        generalize World.alloc wr _ = W111 at BB V5 V8 V9 V10 D SA OW V14 ⊢
        generalize wr.heap.size = nV14 at V14 hBx ⊢
        clear ha0 ha1 ha2 hba
        have hBW := Nat.le_trans hBx (Nat.le_of_lt V14.out.lt)
        have c140 := V14.out.cell 0
        simp at c140
        have l14 := V14.out.lt
        cases asy with
        | false =>
          go_upto_region 17 with fail
          clear c140 l14
          obtain ⟨u3, hu3⟩ : ∃ u, W111 = u := ⟨_, rfl⟩
          rw [hu3] at V5 V8 V9 V10 D SA OW V14 BB hBW ⊢
          clear hu3
          go_cut [15, 16] (fun s10 s11 wx => ∃ b10 x1, s10 = .pointer (some ⟨b10, 0, none⟩) ∧ s11 = .int .i64 0 ∧ Hid (Blk wx b10 x1.c 25 ∧ DkOk wx x1 ∧ Wrote d qq (dbl abyt) x1 ∧ (∀ b, b < u3.heap.size → DkSep d b → DkSep x1 b) ∧ u3.heap.size ≤ b10 ∧ Below u3.heap.size u3 wx))
          case first =>
            refine wp_region_any (by kernel_rfl) ?_
            change wpAny _ _ _ _ _ _ _ (World.drew _)
            generalize hWD : World.drew _ = W
            have V5W := Lib.hid (show Blk W nV5 d.c 25 by rw [← hWD]; exact V5.out)
            have V14W := Lib.hid (show Blk W nV14 #[.bool false, .int .u8 apos, .int .u8 abyt] 46 by rw [← hWD]; exact V14.out)
            have DW := Lib.hid (show DkOk W d by rw [← hWD]; exact D.out.below ((Below.refl _ _).drew))
            have EU := Lib.hid (show Below u3.heap.size u3 W by rw [← hWD]; exact (Below.refl _ _).drew)
            clear hWD
            have QD := Lib.hid IV.out.1
            have hqlt : qq < d.ns := by rw [DW.out.lens.1, IV.out.2.1]; exact hq4
            have HWD := Lib.hid (show d.ws.length < 4096 by rw [inv_len IV.out]; omega)
            have HBR := Lib.hid (dbl_rng hb0 hb255)
            refine region_U (D := Ext W) (fun y => Ext W y ∧ (fun _ => True) y ∧ (fun _ => True) y) [14] ⟨Ext.refl W, trivial, trivial⟩ ?_
            refine anyU_takeD (i := 0) (v := .agg d.c) 60 rfl rfl (by kernel_rfl) (by kernel_rfl) (by kernel_rfl) (fun _ _ _ h => h) (by kernel_rfl) ((Ext.stable W).and (Stable.and (A := fun _ => True) (B := fun _ => True) tr_st tr_st)) (fun y hy => hy.1) (yieldsU_val rfl (fun u hu => by have c := (V5W.out.below hu V5W.out.lt).cell 0; have c1 := (V5W.out.below hu V5W.out.lt).cell 1; have c2 := (V5W.out.below hu V5W.out.lt).cell 2; have c3 := (V5W.out.below hu V5W.out.lt).cell 3; simp at c c1 c2 c3; go_simp)) ?_
            refine anyU_takeD (i := 1) (v := .pointer (some ⟨nV14, 1, none⟩)) 61 rfl rfl (by kernel_rfl) (by kernel_rfl) (by kernel_rfl) (fun _ _ _ h => h) (by kernel_rfl) ((Ext.stable W).and (Stable.and (A := fun _ => True) (B := fun _ => True) tr_st tr_st)) (fun y hy => hy.1) (yieldsU_val rfl (fun u hu => by go_simp)) ?_
            refine anyU_takeD (i := 2) (v := .int .u8 apos) 62 rfl rfl (by kernel_rfl) (by kernel_rfl) (by kernel_rfl) (fun _ _ _ h => h) (by kernel_rfl) ((Ext.stable W).and (Stable.and (A := fun _ => True) (B := fun _ => True) tr_st tr_st)) (fun y hy => hy.1) (yieldsU_val rfl (fun u hu => by have c := (V14W.out.below hu V14W.out.lt).cell 1; simp at c; go_simp)) ?_
            refine anyU_takeD (i := 3) (v := .int .u8 (qq : Int)) 63 rfl rfl (by kernel_rfl) (by kernel_rfl) (by kernel_rfl) (fun _ _ _ h => h) (by kernel_rfl) ((Ext.stable W).and (Stable.and (A := fun _ => True) (B := fun _ => True) tr_st tr_st)) (fun y hy => hy.1) (yieldsU_val rfl (fun u hu => by have c := HTM.out; go_simp)) ?_
            refine anyU_takeD (i := 4) (v := .int .i64 (qq : Int)) 64 rfl rfl (by kernel_rfl) (by kernel_rfl) (by kernel_rfl) (fun _ _ _ h => h) (by kernel_rfl) ((Ext.stable W).and (Stable.and (A := fun _ => True) (B := fun _ => True) tr_st tr_st)) (fun y hy => hy.1) (yieldsU_val rfl (fun u hu => by have c := HWR.out; go_simp)) ?_
            refine anyU_takeD (i := 5) (v := .pointer (some ⟨nV14, 2, none⟩)) 65 rfl rfl (by kernel_rfl) (by kernel_rfl) (by kernel_rfl) (fun _ _ _ h => h) (by kernel_rfl) ((Ext.stable W).and (Stable.and (A := fun _ => True) (B := fun _ => True) tr_st tr_st)) (fun y hy => hy.1) (yieldsU_val rfl (fun u hu => by go_simp)) ?_
            simp only [Act.put, List.setIfInBounds_toArray, List.set_cons_succ, List.set_cons_zero]
            refine anyU_takeD (i := 6) (v := .int .u8 abyt) 66 rfl rfl (by kernel_rfl) (by kernel_rfl) (by kernel_rfl) (fun _ _ _ h => h) (by kernel_rfl) ((Ext.stable W).and (Stable.and (A := fun _ => True) (B := fun _ => True) tr_st tr_st)) (fun y hy => hy.1) (yieldsU_val rfl (fun u hu => by have c := (V14W.out.below hu V14W.out.lt).cell 2; simp at c; go_simp)) ?_
            simp only [Act.put, List.setIfInBounds_toArray, List.set_cons_succ, List.set_cons_zero]
            refine anyU_two 7 12 7 _ _ rfl rfl rfl rfl (by kernel_rfl) ?kw1 ?kw2
            case kw1 =>
              intro u hu
              go_wp2_with fail
              refine (double_any abyt u).mono ?_
              rintro e u1 ⟨rfl, hb1, hk1⟩
              go_wp2_with fail
              change ∃ C' : World → Prop, _ ∧ _ ∧ _ ∧ anyU _ _ _ _ _ _ 7 _ _ _
              have E1 := Lib.hid (Ext.trans hu.1 hb1)
              have Y1 := Lib.hid hk1
              have O1 := Lib.hid ((show Stable (fun _ => True) from tr_st) _ _ hu.2.2 hb1)
              generalize u.heap.size = bb at Y1 ⊢
              clear hu hb1 hk1
              refine anchorF (fun y => Ext W y ∧ (fun z => Blk z bb (bv (dbl abyt)).toArray 5) y ∧ (fun _ => True) y) (fun y hy => hy.1) ((Ext.stable W).and (Stable.and (A := fun z => Blk z bb (bv (dbl abyt)).toArray 5) (B := fun _ => True) (fun y z h k => h.below k h.lt) tr_st)) ⟨E1.out, Y1.out, O1.out⟩ ?_
              (try simp only [Act.put])
              clear E1 Y1 O1
              refine anyU_two 8 12 6 _ _ rfl rfl rfl rfl (by kernel_rfl) ?kw3 ?kw4
              case kw3 =>
                intro u hu
                have KX := Lib.hid (show SrcW u (some ⟨bb, 0, none⟩) 128 128 (dbl abyt) by have := blk_src (show Blk u bb (bv (dbl abyt)).toArray 5 from hu.2.1); rw [dbl_len] at this; exact this)
                go_wp2_with fail
                refine (write_L d qq (some ⟨bb, 0, none⟩) 128 128 (dbl abyt) u (Lib.hid (DW.out.below hu.1)) QD hqlt (by omega) HWD KX HBR).mono ?_
                rintro e u1 ⟨⟨x1, rfl, hd, hf, hs⟩, hb1⟩
                go_wp2_with fail
                change ∃ C' : World → Prop, _ ∧ _ ∧ _ ∧ anyU _ _ _ _ _ _ 6 _ _ _
                have E1 := Lib.hid (Ext.trans hu.1 hb1)
                have F1 := Lib.hid hf
                have HSS := Lib.hid (show ∀ b, b < u3.heap.size → DkSep d b → DkSep x1 b from fun b h1 h2 => hs b (Nat.lt_of_lt_of_le (Nat.lt_of_lt_of_le h1 EU.out.size) (Below.size hu.1)) h2)
                have O1 := Lib.hid ((show Stable (fun _ => True) from tr_st) _ _ hu.2.2 hb1)
                refine anchorF (fun y => Ext W y ∧ (fun z => DkOk z x1) y ∧ (fun _ => True) y) (fun y hy => hy.1) ((Ext.stable W).and (Stable.and (A := fun z => DkOk z x1) (B := fun _ => True) (fun y z h k => h.below k) tr_st)) ⟨E1.out, hd, O1.out⟩ ?_
                (try simp only [Act.put])
                clear E1 hd hf hs hb1 hu KX O1
                refine anyU_takeD (i := 9) (v := .tuple #[.agg x1.c, .int .i64 0]) 59 rfl rfl (by kernel_rfl) (by kernel_rfl) (by kernel_rfl) (fun _ _ _ h => h) (by kernel_rfl) ((Ext.stable W).and (Stable.and (A := fun z => DkOk z x1) (B := fun _ => True) (fun y z h k => h.below k) tr_st)) (fun y hy => hy.1) (yieldsU_val rfl (fun u hu => by go_simp)) ?_
                refine anyU_takeD (i := 10) (v := .agg x1.c) 69 rfl rfl (by kernel_rfl) (by kernel_rfl) (by kernel_rfl) (fun _ _ _ h => h) (by kernel_rfl) ((Ext.stable W).and (Stable.and (A := fun z => DkOk z x1) (B := fun _ => True) (fun y z h k => h.below k) tr_st)) (fun y hy => hy.1) (yieldsU_val rfl (fun u hu => by go_simp)) ?_
                refine anyU_takeD (i := 11) (v := .int .i64 0) 70 rfl rfl (by kernel_rfl) (by kernel_rfl) (by kernel_rfl) (fun _ _ _ h => h) (by kernel_rfl) ((Ext.stable W).and (Stable.and (A := fun z => DkOk z x1) (B := fun _ => True) (fun y z h k => h.below k) tr_st)) (fun y hy => hy.1) (yieldsU_val rfl (fun u hu => by go_simp)) ?_
                simp only [Act.put, List.setIfInBounds_toArray, List.set_cons_succ, List.set_cons_zero]
                refine anyU_one 12 2 _ rfl rfl (by kernel_rfl) ?_
                intro u hu
                go_wp2_with fail
                change ∃ C' : World → Prop, _ ∧ _ ∧ _ ∧ anyU _ _ _ _ _ _ 2 _ _ _
                have hb1 : Below u.heap.size u (u.alloc (.cells #[.slice none 0 0, .slice none 0 0, .int .i64 0, .bool false] 25)) := bel_alloc1 u _
                have E1 := Lib.hid (Ext.trans hu.1 hb1)
                have Y1 := Lib.hid (show Blk (u.alloc (.cells #[.slice none 0 0, .slice none 0 0, .int .i64 0, .bool false] 25)) u.heap.size #[.slice none 0 0, .slice none 0 0, .int .i64 0, .bool false] 25 from Blk.new u _ _)
                have sb10 : W.heap.size ≤ u.heap.size := Below.size hu.1
                have S10' := (DkOk.sep hu.2.1 (Nat.le_refl u.heap.size))
                have O1 := Lib.hid ((show Stable (fun z => DkOk z x1) from (fun y z h k => h.below k)) _ _ hu.2.1 hb1)
                generalize World.alloc u _ = u1 at E1 Y1 O1 hb1 ⊢
                generalize u.heap.size = b10 at Y1 sb10 S10' ⊢
                clear hu hb1
                have S10 := Lib.hid S10'
                clear S10'
                refine anchorF (fun y => Ext W y ∧ (fun z => DkOk z x1) y ∧ (fun z => Blk z b10 #[.slice none 0 0, .slice none 0 0, .int .i64 0, .bool false] 25) y) (fun y hy => hy.1) ((Ext.stable W).and (Stable.and (A := fun z => DkOk z x1) (B := fun z => Blk z b10 #[.slice none 0 0, .slice none 0 0, .int .i64 0, .bool false] 25) (fun y z h k => h.below k) (fun y z h k => h.below k h.lt))) ⟨E1.out, O1.out, Y1.out⟩ ?_
                (try simp only [Act.put])
                clear E1 Y1 O1
                refine anyU_one 13 1 _ rfl rfl (by kernel_rfl) ?_
                intro u hu
                have x0 := hu.2.2.cell 0
                have x1c := hu.2.2.cell 1
                have x2 := hu.2.2.cell 2
                have x3 := hu.2.2.cell 3
                have y0 := hu.2.2.frozen 0
                have y1 := hu.2.2.frozen 1
                have y2 := hu.2.2.frozen 2
                have y3 := hu.2.2.frozen 3
                simp at x0 x1c x2 x3
                have XB := (((((hu.2.2).set 0 (.slice x1.ps x1.ns x1.cs)).set 1 (.slice x1.pp x1.np x1.cp)).set 2 (.int .i64 x1.left)).set 3 (.bool x1.st))
                have XD := ((((((show DkOk u x1 from hu.2.1)).set (o := 0) (v := (.slice x1.ps x1.ns x1.cs)) S10.out).set (o := 1) (v := (.slice x1.pp x1.np x1.cp)) S10.out).set (o := 2) (v := (.int .i64 x1.left)) S10.out).set (o := 3) (v := (.bool x1.st)) S10.out)
                have XE := ((((Below.setCell hu.1 (p := ⟨b10, 0, none⟩) sb10 (.slice x1.ps x1.ns x1.cs)).setCell (p := ⟨b10, 1, none⟩) sb10 (.slice x1.pp x1.np x1.cp)).setCell (p := ⟨b10, 2, none⟩) sb10 (.int .i64 x1.left)).setCell (p := ⟨b10, 3, none⟩) sb10 (.bool x1.st))
                go_wp2_with fail
                change ∃ C' : World → Prop, _ ∧ _ ∧ _ ∧ anyU _ _ _ _ _ _ 1 _ _ _
                refine anchorF (fun y => Ext W y ∧ DkOk y x1 ∧ Blk y b10 x1.c 25) (fun y hy => hy.1) ((Ext.stable W).and (Stable.and (A := fun z => DkOk z x1) (B := fun z => Blk z b10 x1.c 25) (fun y z h k => h.below k) (fun y z h k => h.below k h.lt))) ⟨XE, XD, XB⟩ ?_
                (try simp only [Act.put])
                clear hu x0 x1c x2 x3 y0 y1 y2 y3 XB XD XE
                refine anyU_tail 14 [] rfl rfl (by decide) (by kernel_rfl) ?_
                intro u2 hu2
                simp only [Act.put, List.filterMap_cons, List.filterMap_nil, List.getElem?_cons_succ, List.getElem?_cons_zero]
                go_wp2_with fail
                go_meet
                exact ⟨b10, x1, rfl, rfl, Lib.hid ⟨hu2.2.2, hu2.2.1, F1.out, HSS.out, Nat.le_trans EU.out.size sb10, EU.out.trans (Below.mono hu2.1 EU.out.size)⟩⟩
              case kw4 =>
                intro u hu
                go_wp2_with fail
                change ∃ C' : World → Prop, _ ∧ _ ∧ _ ∧ anyU _ _ _ _ _ _ 6 _ _ _
                have hb1 : Below u.heap.size u (u.alloc (.cells #[.slice none 0 0, .slice none 0 0, .int .i64 0, .bool false] 25)) := bel_alloc1 u _
                have E1 := Lib.hid (Ext.trans hu.1 hb1)
                have Y1 := Lib.hid (show Blk (u.alloc (.cells #[.slice none 0 0, .slice none 0 0, .int .i64 0, .bool false] 25)) u.heap.size #[.slice none 0 0, .slice none 0 0, .int .i64 0, .bool false] 25 from Blk.new u _ _)
                have sb10 : W.heap.size ≤ u.heap.size := Below.size hu.1
                have O1 := Lib.hid ((show Stable (fun z => Blk z bb (bv (dbl abyt)).toArray 5) from (fun y z h k => h.below k h.lt)) _ _ hu.2.1 hb1)
                generalize World.alloc u _ = u1 at E1 Y1 O1 hb1 ⊢
                generalize u.heap.size = b10 at Y1 sb10 ⊢
                clear hu hb1
                refine anchorF (fun y => Ext W y ∧ (fun z => Blk z bb (bv (dbl abyt)).toArray 5) y ∧ (fun z => Blk z b10 #[.slice none 0 0, .slice none 0 0, .int .i64 0, .bool false] 25) y) (fun y hy => hy.1) ((Ext.stable W).and (Stable.and (A := fun z => Blk z bb (bv (dbl abyt)).toArray 5) (B := fun z => Blk z b10 #[.slice none 0 0, .slice none 0 0, .int .i64 0, .bool false] 25) (fun y z h k => h.below k h.lt) (fun y z h k => h.below k h.lt))) ⟨E1.out, O1.out, Y1.out⟩ ?_
                (try simp only [Act.put])
                clear E1 Y1 O1
                refine anyU_one 8 5 _ rfl rfl (by kernel_rfl) ?_
                intro u hu
                have KX := Lib.hid (show SrcW u (some ⟨bb, 0, none⟩) 128 128 (dbl abyt) by have := blk_src (show Blk u bb (bv (dbl abyt)).toArray 5 from hu.2.1); rw [dbl_len] at this; exact this)
                go_wp2_with fail
                refine (write_L d qq (some ⟨bb, 0, none⟩) 128 128 (dbl abyt) u (Lib.hid (DW.out.below hu.1)) QD hqlt (by omega) HWD KX HBR).mono ?_
                rintro e u1 ⟨⟨x1, rfl, hd, hf, hs⟩, hb1⟩
                go_wp2_with fail
                change ∃ C' : World → Prop, _ ∧ _ ∧ _ ∧ anyU _ _ _ _ _ _ 5 _ _ _
                have E1 := Lib.hid (Ext.trans hu.1 hb1)
                have F1 := Lib.hid hf
                have HSS := Lib.hid (show ∀ b, b < u3.heap.size → DkSep d b → DkSep x1 b from fun b h1 h2 => hs b (Nat.lt_of_lt_of_le (Nat.lt_of_lt_of_le h1 EU.out.size) (Below.size hu.1)) h2)
                have S10 := Lib.hid (hs b10 hu.2.2.lt (DW.out.sep sb10))
                have O1 := Lib.hid ((show Stable (fun z => Blk z b10 #[.slice none 0 0, .slice none 0 0, .int .i64 0, .bool false] 25) from (fun y z h k => h.below k h.lt)) _ _ hu.2.2 hb1)
                refine anchorF (fun y => Ext W y ∧ (fun z => DkOk z x1) y ∧ (fun z => Blk z b10 #[.slice none 0 0, .slice none 0 0, .int .i64 0, .bool false] 25) y) (fun y hy => hy.1) ((Ext.stable W).and (Stable.and (A := fun z => DkOk z x1) (B := fun z => Blk z b10 #[.slice none 0 0, .slice none 0 0, .int .i64 0, .bool false] 25) (fun y z h k => h.below k) (fun y z h k => h.below k h.lt))) ⟨E1.out, hd, O1.out⟩ ?_
                (try simp only [Act.put])
                clear E1 hd hf hs hb1 hu KX O1
                refine anyU_takeD (i := 9) (v := .tuple #[.agg x1.c, .int .i64 0]) 59 rfl rfl (by kernel_rfl) (by kernel_rfl) (by kernel_rfl) (fun _ _ _ h => h) (by kernel_rfl) ((Ext.stable W).and (Stable.and (A := fun z => DkOk z x1) (B := fun z => Blk z b10 #[.slice none 0 0, .slice none 0 0, .int .i64 0, .bool false] 25) (fun y z h k => h.below k) (fun y z h k => h.below k h.lt))) (fun y hy => hy.1) (yieldsU_val rfl (fun u hu => by go_simp)) ?_
                refine anyU_takeD (i := 10) (v := .agg x1.c) 69 rfl rfl (by kernel_rfl) (by kernel_rfl) (by kernel_rfl) (fun _ _ _ h => h) (by kernel_rfl) ((Ext.stable W).and (Stable.and (A := fun z => DkOk z x1) (B := fun z => Blk z b10 #[.slice none 0 0, .slice none 0 0, .int .i64 0, .bool false] 25) (fun y z h k => h.below k) (fun y z h k => h.below k h.lt))) (fun y hy => hy.1) (yieldsU_val rfl (fun u hu => by go_simp)) ?_
                refine anyU_takeD (i := 11) (v := .int .i64 0) 70 rfl rfl (by kernel_rfl) (by kernel_rfl) (by kernel_rfl) (fun _ _ _ h => h) (by kernel_rfl) ((Ext.stable W).and (Stable.and (A := fun z => DkOk z x1) (B := fun z => Blk z b10 #[.slice none 0 0, .slice none 0 0, .int .i64 0, .bool false] 25) (fun y z h k => h.below k) (fun y z h k => h.below k h.lt))) (fun y hy => hy.1) (yieldsU_val rfl (fun u hu => by go_simp)) ?_
                simp only [Act.put, List.setIfInBounds_toArray, List.set_cons_succ, List.set_cons_zero]
                refine anyU_one 13 1 _ rfl rfl (by kernel_rfl) ?_
                intro u hu
                have x0 := hu.2.2.cell 0
                have x1c := hu.2.2.cell 1
                have x2 := hu.2.2.cell 2
                have x3 := hu.2.2.cell 3
                have y0 := hu.2.2.frozen 0
                have y1 := hu.2.2.frozen 1
                have y2 := hu.2.2.frozen 2
                have y3 := hu.2.2.frozen 3
                simp at x0 x1c x2 x3
                have XB := (((((hu.2.2).set 0 (.slice x1.ps x1.ns x1.cs)).set 1 (.slice x1.pp x1.np x1.cp)).set 2 (.int .i64 x1.left)).set 3 (.bool x1.st))
                have XD := ((((((show DkOk u x1 from hu.2.1)).set (o := 0) (v := (.slice x1.ps x1.ns x1.cs)) S10.out).set (o := 1) (v := (.slice x1.pp x1.np x1.cp)) S10.out).set (o := 2) (v := (.int .i64 x1.left)) S10.out).set (o := 3) (v := (.bool x1.st)) S10.out)
                have XE := ((((Below.setCell hu.1 (p := ⟨b10, 0, none⟩) sb10 (.slice x1.ps x1.ns x1.cs)).setCell (p := ⟨b10, 1, none⟩) sb10 (.slice x1.pp x1.np x1.cp)).setCell (p := ⟨b10, 2, none⟩) sb10 (.int .i64 x1.left)).setCell (p := ⟨b10, 3, none⟩) sb10 (.bool x1.st))
                go_wp2_with fail
                change ∃ C' : World → Prop, _ ∧ _ ∧ _ ∧ anyU _ _ _ _ _ _ 1 _ _ _
                refine anchorF (fun y => Ext W y ∧ DkOk y x1 ∧ Blk y b10 x1.c 25) (fun y hy => hy.1) ((Ext.stable W).and (Stable.and (A := fun z => DkOk z x1) (B := fun z => Blk z b10 x1.c 25) (fun y z h k => h.below k) (fun y z h k => h.below k h.lt))) ⟨XE, XD, XB⟩ ?_
                (try simp only [Act.put])
                clear hu x0 x1c x2 x3 y0 y1 y2 y3 XB XD XE
                refine anyU_tail 14 [] rfl rfl (by decide) (by kernel_rfl) ?_
                intro u2 hu2
                simp only [Act.put, List.filterMap_cons, List.filterMap_nil, List.getElem?_cons_succ, List.getElem?_cons_zero]
                go_wp2_with fail
                go_meet
                exact ⟨b10, x1, rfl, rfl, Lib.hid ⟨hu2.2.2, hu2.2.1, F1.out, HSS.out, Nat.le_trans EU.out.size sb10, EU.out.trans (Below.mono hu2.1 EU.out.size)⟩⟩
            case kw2 =>
              intro u hu
              go_wp2_with fail
              change ∃ C' : World → Prop, _ ∧ _ ∧ _ ∧ anyU _ _ _ _ _ _ 7 _ _ _
              have hb1 : Below u.heap.size u (u.alloc (.cells #[.slice none 0 0, .slice none 0 0, .int .i64 0, .bool false] 25)) := bel_alloc1 u _
              have E1 := Lib.hid (Ext.trans hu.1 hb1)
              have Y1 := Lib.hid (show Blk (u.alloc (.cells #[.slice none 0 0, .slice none 0 0, .int .i64 0, .bool false] 25)) u.heap.size #[.slice none 0 0, .slice none 0 0, .int .i64 0, .bool false] 25 from Blk.new u _ _)
              have sb10 : W.heap.size ≤ u.heap.size := Below.size hu.1
              have O1 := Lib.hid ((show Stable (fun _ => True) from tr_st) _ _ hu.2.1 hb1)
              generalize World.alloc u _ = u1 at E1 Y1 O1 hb1 ⊢
              generalize u.heap.size = b10 at Y1 sb10 ⊢
              clear hu hb1
              refine anchorF (fun y => Ext W y ∧ (fun _ => True) y ∧ (fun z => Blk z b10 #[.slice none 0 0, .slice none 0 0, .int .i64 0, .bool false] 25) y) (fun y hy => hy.1) ((Ext.stable W).and (Stable.and (A := fun _ => True) (B := fun z => Blk z b10 #[.slice none 0 0, .slice none 0 0, .int .i64 0, .bool false] 25) tr_st (fun y z h k => h.below k h.lt))) ⟨E1.out, O1.out, Y1.out⟩ ?_
              (try simp only [Act.put])
              clear E1 Y1 O1
              refine anyU_one 7 6 _ rfl rfl (by kernel_rfl) ?_
              intro u hu
              go_wp2_with fail
              refine (double_any abyt u).mono ?_
              rintro e u1 ⟨rfl, hb1, hk1⟩
              go_wp2_with fail
              change ∃ C' : World → Prop, _ ∧ _ ∧ _ ∧ anyU _ _ _ _ _ _ 6 _ _ _
              have E1 := Lib.hid (Ext.trans hu.1 hb1)
              have Y1 := Lib.hid hk1
              have O1 := Lib.hid ((show Stable (fun z => Blk z b10 #[.slice none 0 0, .slice none 0 0, .int .i64 0, .bool false] 25) from (fun y z h k => h.below k h.lt)) _ _ hu.2.2 hb1)
              generalize u.heap.size = bb at Y1 ⊢
              clear hu hb1 hk1
              refine anchorF (fun y => Ext W y ∧ (fun z => Blk z bb (bv (dbl abyt)).toArray 5) y ∧ (fun z => Blk z b10 #[.slice none 0 0, .slice none 0 0, .int .i64 0, .bool false] 25) y) (fun y hy => hy.1) ((Ext.stable W).and (Stable.and (A := fun z => Blk z bb (bv (dbl abyt)).toArray 5) (B := fun z => Blk z b10 #[.slice none 0 0, .slice none 0 0, .int .i64 0, .bool false] 25) (fun y z h k => h.below k h.lt) (fun y z h k => h.below k h.lt))) ⟨E1.out, Y1.out, O1.out⟩ ?_
              (try simp only [Act.put])
              clear E1 Y1 O1
              refine anyU_one 8 5 _ rfl rfl (by kernel_rfl) ?_
              intro u hu
              have KX := Lib.hid (show SrcW u (some ⟨bb, 0, none⟩) 128 128 (dbl abyt) by have := blk_src (show Blk u bb (bv (dbl abyt)).toArray 5 from hu.2.1); rw [dbl_len] at this; exact this)
              go_wp2_with fail
              refine (write_L d qq (some ⟨bb, 0, none⟩) 128 128 (dbl abyt) u (Lib.hid (DW.out.below hu.1)) QD hqlt (by omega) HWD KX HBR).mono ?_
              rintro e u1 ⟨⟨x1, rfl, hd, hf, hs⟩, hb1⟩
              go_wp2_with fail
              change ∃ C' : World → Prop, _ ∧ _ ∧ _ ∧ anyU _ _ _ _ _ _ 5 _ _ _
              have E1 := Lib.hid (Ext.trans hu.1 hb1)
              have F1 := Lib.hid hf
              have HSS := Lib.hid (show ∀ b, b < u3.heap.size → DkSep d b → DkSep x1 b from fun b h1 h2 => hs b (Nat.lt_of_lt_of_le (Nat.lt_of_lt_of_le h1 EU.out.size) (Below.size hu.1)) h2)
              have S10 := Lib.hid (hs b10 hu.2.2.lt (DW.out.sep sb10))
              have O1 := Lib.hid ((show Stable (fun z => Blk z b10 #[.slice none 0 0, .slice none 0 0, .int .i64 0, .bool false] 25) from (fun y z h k => h.below k h.lt)) _ _ hu.2.2 hb1)
              refine anchorF (fun y => Ext W y ∧ (fun z => DkOk z x1) y ∧ (fun z => Blk z b10 #[.slice none 0 0, .slice none 0 0, .int .i64 0, .bool false] 25) y) (fun y hy => hy.1) ((Ext.stable W).and (Stable.and (A := fun z => DkOk z x1) (B := fun z => Blk z b10 #[.slice none 0 0, .slice none 0 0, .int .i64 0, .bool false] 25) (fun y z h k => h.below k) (fun y z h k => h.below k h.lt))) ⟨E1.out, hd, O1.out⟩ ?_
              (try simp only [Act.put])
              clear E1 hd hf hs hb1 hu KX O1
              refine anyU_takeD (i := 9) (v := .tuple #[.agg x1.c, .int .i64 0]) 59 rfl rfl (by kernel_rfl) (by kernel_rfl) (by kernel_rfl) (fun _ _ _ h => h) (by kernel_rfl) ((Ext.stable W).and (Stable.and (A := fun z => DkOk z x1) (B := fun z => Blk z b10 #[.slice none 0 0, .slice none 0 0, .int .i64 0, .bool false] 25) (fun y z h k => h.below k) (fun y z h k => h.below k h.lt))) (fun y hy => hy.1) (yieldsU_val rfl (fun u hu => by go_simp)) ?_
              refine anyU_takeD (i := 10) (v := .agg x1.c) 69 rfl rfl (by kernel_rfl) (by kernel_rfl) (by kernel_rfl) (fun _ _ _ h => h) (by kernel_rfl) ((Ext.stable W).and (Stable.and (A := fun z => DkOk z x1) (B := fun z => Blk z b10 #[.slice none 0 0, .slice none 0 0, .int .i64 0, .bool false] 25) (fun y z h k => h.below k) (fun y z h k => h.below k h.lt))) (fun y hy => hy.1) (yieldsU_val rfl (fun u hu => by go_simp)) ?_
              refine anyU_takeD (i := 11) (v := .int .i64 0) 70 rfl rfl (by kernel_rfl) (by kernel_rfl) (by kernel_rfl) (fun _ _ _ h => h) (by kernel_rfl) ((Ext.stable W).and (Stable.and (A := fun z => DkOk z x1) (B := fun z => Blk z b10 #[.slice none 0 0, .slice none 0 0, .int .i64 0, .bool false] 25) (fun y z h k => h.below k) (fun y z h k => h.below k h.lt))) (fun y hy => hy.1) (yieldsU_val rfl (fun u hu => by go_simp)) ?_
              simp only [Act.put, List.setIfInBounds_toArray, List.set_cons_succ, List.set_cons_zero]
              refine anyU_one 13 1 _ rfl rfl (by kernel_rfl) ?_
              intro u hu
              have x0 := hu.2.2.cell 0
              have x1c := hu.2.2.cell 1
              have x2 := hu.2.2.cell 2
              have x3 := hu.2.2.cell 3
              have y0 := hu.2.2.frozen 0
              have y1 := hu.2.2.frozen 1
              have y2 := hu.2.2.frozen 2
              have y3 := hu.2.2.frozen 3
              simp at x0 x1c x2 x3
              have XB := (((((hu.2.2).set 0 (.slice x1.ps x1.ns x1.cs)).set 1 (.slice x1.pp x1.np x1.cp)).set 2 (.int .i64 x1.left)).set 3 (.bool x1.st))
              have XD := ((((((show DkOk u x1 from hu.2.1)).set (o := 0) (v := (.slice x1.ps x1.ns x1.cs)) S10.out).set (o := 1) (v := (.slice x1.pp x1.np x1.cp)) S10.out).set (o := 2) (v := (.int .i64 x1.left)) S10.out).set (o := 3) (v := (.bool x1.st)) S10.out)
              have XE := ((((Below.setCell hu.1 (p := ⟨b10, 0, none⟩) sb10 (.slice x1.ps x1.ns x1.cs)).setCell (p := ⟨b10, 1, none⟩) sb10 (.slice x1.pp x1.np x1.cp)).setCell (p := ⟨b10, 2, none⟩) sb10 (.int .i64 x1.left)).setCell (p := ⟨b10, 3, none⟩) sb10 (.bool x1.st))
              go_wp2_with fail
              change ∃ C' : World → Prop, _ ∧ _ ∧ _ ∧ anyU _ _ _ _ _ _ 1 _ _ _
              refine anchorF (fun y => Ext W y ∧ DkOk y x1 ∧ Blk y b10 x1.c 25) (fun y hy => hy.1) ((Ext.stable W).and (Stable.and (A := fun z => DkOk z x1) (B := fun z => Blk z b10 x1.c 25) (fun y z h k => h.below k) (fun y z h k => h.below k h.lt))) ⟨XE, XD, XB⟩ ?_
              (try simp only [Act.put])
              clear hu x0 x1c x2 x3 y0 y1 y2 y3 XB XD XE
              refine anyU_tail 14 [] rfl rfl (by decide) (by kernel_rfl) ?_
              intro u2 hu2
              simp only [Act.put, List.filterMap_cons, List.filterMap_nil, List.getElem?_cons_succ, List.getElem?_cons_zero]
              go_wp2_with fail
              go_meet
              exact ⟨b10, x1, rfl, rfl, Lib.hid ⟨hu2.2.2, hu2.2.1, F1.out, HSS.out, Nat.le_trans EU.out.size sb10, EU.out.trans (Below.mono hu2.1 EU.out.size)⟩⟩
          case rest =>
            obtain ⟨b10, x1, rfl, rfl, HC⟩ := hcut
            obtain ⟨G1, G2, G3, G4, G5, G6⟩ := HC.out
            have SX := Lib.hid (show Seps x1 nV5 n8 from ⟨G4 _ V5.out.lt SEP.out.1, G4 _ V8.out.lt SEP.out.2.1, G4 _ V9.out.lt SEP.out.2.2.1, G4 _ V10.out.lt SEP.out.2.2.2⟩)
            have SVX := Lib.hid (show SepV x1 (.slice p wt.length cap) from fun g hg => G4 g (World.ownsRow.lt OW.out g hg).2 (SV.out g hg))
            have HLL := Lib.hid (inv_lens IV.out).2.2
            have l5 := Nat.lt_of_lt_of_le V5.out.lt G6.size
            have h510 : nV5 < b10 := Nat.lt_of_lt_of_le V5.out.lt G5
            have IX := Lib.hid (inv_write (a := ⟨false, apos, abyt⟩) IV.out (by rw [HQQ.out]; exact G3) (by omega))
            rw [HQQ.out] at IX
            replace V5 := Lib.hid (V5.out.below G6 V5.out.lt)
            replace V8 := Lib.hid (V8.out.below G6 V8.out.lt)
            replace V9 := Lib.hid (V9.out.below G6 V9.out.lt)
            replace V10 := Lib.hid (V10.out.below G6 V10.out.lt)
            replace V14 := Lib.hid (V14.out.below G6 V14.out.lt)
            replace SA := Lib.hid (SA.out.below G6)
            replace OW := Lib.hid (OW.out.below G6)
            replace BB := Lib.hid (BB.out.trans (G6.mono BB.out.size))
            have VX := Lib.hid G1
            have DX := Lib.hid G2
            have hBW2 := Nat.le_trans hBW G6.size
            clear HC G1 G2 G3 G4 G5 G6 D
            have cVX0 := VX.out.cell 0
            have cVX1 := VX.out.cell 1
            have cVX2 := VX.out.cell 2
            have cVX3 := VX.out.cell 3
            have lVX := VX.out.lt
            have f0 := V5.out.frozen 0; have f1 := V5.out.frozen 1; have f2 := V5.out.frozen 2; have f3 := V5.out.frozen 3
            obtain ⟨c0, c1, c2, c3, lb⟩ := blk4_facts V5.out
            have X5 := (((((V5.out).set 0 (.slice x1.ps x1.ns x1.cs)).set 1 (.slice x1.pp x1.np x1.cp)).set 2 (.int .i64 x1.left)).set 3 (.bool x1.st))
            have X8 := (((((V8.out).other (b' := nV5) 0 (.slice x1.ps x1.ns x1.cs) (by omega)).other (b' := nV5) 1 (.slice x1.pp x1.np x1.cp) (by omega)).other (b' := nV5) 2 (.int .i64 x1.left) (by omega)).other (b' := nV5) 3 (.bool x1.st) (by omega))
            have X9 := (((((V9.out).other (b' := nV5) 0 (.slice x1.ps x1.ns x1.cs) (by omega)).other (b' := nV5) 1 (.slice x1.pp x1.np x1.cp) (by omega)).other (b' := nV5) 2 (.int .i64 x1.left) (by omega)).other (b' := nV5) 3 (.bool x1.st) (by omega))
            have X10 := (((((V10.out).other (b' := nV5) 0 (.slice x1.ps x1.ns x1.cs) (by omega)).other (b' := nV5) 1 (.slice x1.pp x1.np x1.cp) (by omega)).other (b' := nV5) 2 (.int .i64 x1.left) (by omega)).other (b' := nV5) 3 (.bool x1.st) (by omega))
            have X14 := (((((V14.out).other (b' := nV5) 0 (.slice x1.ps x1.ns x1.cs) (by omega)).other (b' := nV5) 1 (.slice x1.pp x1.np x1.cp) (by omega)).other (b' := nV5) 2 (.int .i64 x1.left) (by omega)).other (b' := nV5) 3 (.bool x1.st) (by omega))
            have XD := (((((DX.out).set (o := 0) (v := (.slice x1.ps x1.ns x1.cs)) SX.out.1).set (o := 1) (v := (.slice x1.pp x1.np x1.cp)) SX.out.1).set (o := 2) (v := (.int .i64 x1.left)) SX.out.1).set (o := 3) (v := (.bool x1.st)) SX.out.1)
            have XO := (((((OW.out).set (b := nV5) (o := 0) (x := (.slice x1.ps x1.ns x1.cs)) (by omega)).set (b := nV5) (o := 1) (x := (.slice x1.pp x1.np x1.cp)) (by omega)).set (b := nV5) (o := 2) (x := (.int .i64 x1.left)) (by omega)).set (b := nV5) (o := 3) (x := (.bool x1.st)) (by omega))
            have XB := (((((BB.out).setCell (p := ⟨nV5, 0, none⟩) hw5 (.slice x1.ps x1.ns x1.cs)).setCell (p := ⟨nV5, 1, none⟩) hw5 (.slice x1.pp x1.np x1.cp)).setCell (p := ⟨nV5, 2, none⟩) hw5 (.int .i64 x1.left)).setCell (p := ⟨nV5, 3, none⟩) hw5 (.bool x1.st))
            have XS := (((((SA.out).set (o := 0) (v := (.slice x1.ps x1.ns x1.cs)) (b := nV5) (fun h a ha => by have := HA.out a ha h; omega)).set (o := 1) (v := (.slice x1.pp x1.np x1.cp)) (b := nV5) (fun h a ha => by have := HA.out a ha h; omega)).set (o := 2) (v := (.int .i64 x1.left)) (b := nV5) (fun h a ha => by have := HA.out a ha h; omega)).set (o := 3) (v := (.bool x1.st)) (b := nV5) (fun h a ha => by have := HA.out a ha h; omega))
            have XZ : B ≤ ((((wc.setCell ⟨nV5, 0, none⟩ (.slice x1.ps x1.ns x1.cs)).setCell ⟨nV5, 1, none⟩ (.slice x1.pp x1.np x1.cp)).setCell ⟨nV5, 2, none⟩ (.int .i64 x1.left)).setCell ⟨nV5, 3, none⟩ (.bool x1.st)).heap.size := by simp only [World.size_setCell]; exact hBW2
            go_upto_region 21 with fail
            generalize ((((wc.setCell ⟨nV5, 0, none⟩ (.slice x1.ps x1.ns x1.cs)).setCell ⟨nV5, 1, none⟩ (.slice x1.pp x1.np x1.cp)).setCell ⟨nV5, 2, none⟩ (.int .i64 x1.left)).setCell ⟨nV5, 3, none⟩ (.bool x1.st)) = W150 at X5 X8 X9 X10 X14 XD XO XB XS XZ ⊢
            clear V5 V8 V9 V10 V14 DX OW BB SA VX f0 f1 f2 f3 c0 c1 c2 c3 lb cVX0 cVX1 cVX2 cVX3 lVX hBW hBW2
            have V5 := Lib.hid (show Blk W150 nV5 x1.c 25 from X5)
            have V8 := Lib.hid X8; have V9 := Lib.hid X9; have V10 := Lib.hid X10; have V14 := Lib.hid X14; have D := Lib.hid XD; have OW := Lib.hid XO; have BB := Lib.hid XB; have SA := Lib.hid XS
            clear X5 X8 X9 X10 X14 XD XO XB XS
            have c141 := V14.out.cell 1
            have c142 := V14.out.cell 2
            simp at c141 c142
            have l14 := V14.out.lt
            have c8q : W150.cell? ⟨n8, qq, none⟩ = some (.int .u8 (ls.getD qq 0)) := by rw [V8.out.cell qq]; exact a4_get ls qq hq4
            have f8q := V8.out.frozen qq
            have l8 := V8.out.lt
            have htm := HTM.out
            have hqi := HQI.out
            have X8 := V8.out.set qq (.int .u8 abyt)
            have X5 := V5.out.other (b' := n8) qq (.int .u8 abyt) (by omega)
            have X9 := V9.out.other (b' := n8) qq (.int .u8 abyt) (by omega)
            have X10 := V10.out.other (b' := n8) qq (.int .u8 abyt) (by omega)
            have X14 := V14.out.other (b' := n8) qq (.int .u8 abyt) (by omega)
            have XD := D.out.set (o := qq) (v := .int .u8 abyt) SX.out.2.1
            have XO := OW.out.set (b := n8) (o := qq) (x := .int .u8 abyt) (by omega)
            have XB := BB.out.setCell (p := ⟨n8, qq, none⟩) hw8 (.int .u8 abyt)
            have XS := SA.out.set (o := qq) (v := .int .u8 abyt) (b := n8) (fun h a ha => by have := HA.out a ha h; omega)
            have XZ2 : B ≤ (W150.setCell ⟨n8, qq, none⟩ (.int .u8 abyt)).heap.size := by simp only [World.size_setCell]; exact XZ
            rw [a4_set HLL.out hq4] at X8
            go_upto_region 22 with fail
            generalize W150.setCell ⟨n8, qq, none⟩ (.int .u8 abyt) = W151 at X5 X8 X9 X10 X14 XD XO XB XS XZ2 ⊢
            clear V5 V8 V9 V10 V14 D OW BB SA c141 c142 l14 c8q f8q l8 htm hqi XZ
            obtain ⟨l2, hl2⟩ : ∃ l, ls.set qq abyt = l := ⟨_, rfl⟩
            rw [hl2] at X8 IX
            clear hl2
            have OWa := Lib.hid (OwnA.below XO (bel_alloc1 W151 (.cells #[.bool false, .int .u8 apos, .int .u8 abyt] 46)))
            have Da := Lib.hid (DkOk.below XD (bel_alloc1 W151 (.cells #[.bool false, .int .u8 apos, .int .u8 abyt] 46)))
            have V5 := Lib.hid (X5.alloc (.cells #[.bool false, .int .u8 apos, .int .u8 abyt] 46)); have V8 := Lib.hid (X8.alloc (.cells #[.bool false, .int .u8 apos, .int .u8 abyt] 46)); have V9 := Lib.hid (X9.alloc (.cells #[.bool false, .int .u8 apos, .int .u8 abyt] 46)); have V10 := Lib.hid (X10.alloc (.cells #[.bool false, .int .u8 apos, .int .u8 abyt] 46))
            have SA := Lib.hid (XS.below (bel_alloc1 W151 (.cells #[.bool false, .int .u8 apos, .int .u8 abyt] 46)))
            have BB := Lib.hid (XB.alloc XB.size (.cells #[.bool false, .int .u8 apos, .int .u8 abyt] 46))
            have c140 := X14.cell 0
            have c141 := X14.cell 1
            have c142 := X14.cell 2
            simp at c140 c141 c142
            have l14 := X14.lt
            have XZ3 : B ≤ (W151.alloc (.cells #[.bool false, .int .u8 apos, .int .u8 abyt] 46)).heap.size := by simp; omega
            have BN := Lib.hid (Blk.new W151 (cellsA ⟨false, apos, abyt⟩).toArray 46)
            clear X5 X8 X9 X10 XD XO XB XS
            go_wp2_with (at_builtin; refine appA' rfl (.tmp 80) (.tmp 82) rfl B (.slice p wt.length cap) wt rfl ?g1 W151.heap.size ⟨false, apos, abyt⟩ rfl ?g2 ?g3 ?g4 ?_)
            case g1 => exact OWa.out
            case g2 => exact BN.out
            case g3 => omega
            case g4 => simpa using XZ3
            intro v2 w2 o2 gr2 lies2
            have AOK2 := Lib.hid (show ∀ a ∈ wt ++ [(⟨false, apos, abyt⟩ : Ac)], AcOk a from fun a ha => by
              rcases List.mem_append.1 ha with h | h
              · exact AOK.out a h
              · obtain rfl : a = ⟨false, apos, abyt⟩ := by simpa using h
                exact HAO.out)
            replace V5 := Lib.hid (V5.out.gr OWa.out gr2 (by omega))
            replace V8 := Lib.hid (V8.out.gr OWa.out gr2 (by omega))
            replace V9 := Lib.hid (V9.out.gr OWa.out gr2 (by omega))
            replace V10 := Lib.hid (V10.out.gr OWa.out gr2 (by omega))
            have D := Lib.hid (Da.out.grown SVX.out gr2)
            replace SA := Lib.hid (SA.out.gr OWa.out gr2 (fun h a ha => by have := HA.out a ha h; omega))
            replace BB := Lib.hid (BB.out.grown gr2 (by simp; have := BB.out.size; simp at this; omega) (fun g hg => by have := (World.ownsRow.lt OWa.out g hg).1; omega))
            have SV2 := Lib.hid (SVX.out.lies Da.out lies2)
            have hBW := Nat.le_trans XZ3 gr2.size
            obtain ⟨p2, cap2, hv2, _, _⟩ := OwnA.val o2 AOK2.out (by rw [List.length_append]; simp; omega)
            have OW := Lib.hid o2
            clear o2 gr2 lies2 OWa Da SVX c140 c141 c142 l14 XZ3 BN X14 XZ2
            obtain ⟨wt2, hwt2⟩ : ∃ l, wt ++ [(⟨false, apos, abyt⟩ : Ac)] = l := ⟨_, rfl⟩
            have hw2 : wt2.length = wt.length + 1 := by rw [← hwt2]; simp
            rw [hwt2] at IX AOK2 hv2 OW
            clear hwt2
            have HW2 := Lib.hid hw2
            clear hw2
            subst hv2
            have QX := Lib.hid IX.out.1
            have NX := Lib.hid (show x1.ns = 4 by rw [D.out.lens.1]; exact IX.out.2.1)
            have HH := Lib.hid (inv_holds IX.out)
            have cV50 := V5.out.cell 0
            have cV51 := V5.out.cell 1
            have cV52 := V5.out.cell 2
            have cV53 := V5.out.cell 3
            have lV5 := V5.out.lt
            have c80 : w2.cell? ⟨n8, 0, none⟩ = some (.int .u8 (l2.getD 0 0)) := V8.out.cell 0
            have c81 : w2.cell? ⟨n8, 1, none⟩ = some (.int .u8 (l2.getD 1 0)) := V8.out.cell 1
            have c82 : w2.cell? ⟨n8, 2, none⟩ = some (.int .u8 (l2.getD 2 0)) := V8.out.cell 2
            have c83 : w2.cell? ⟨n8, 3, none⟩ = some (.int .u8 (l2.getD 3 0)) := V8.out.cell 3
            have l8 := V8.out.lt
            go_wp2_with fail
            refine (holds_L x1 l2 l2 _ D QX NX.out HH).mono ?_
            rintro e W161 ⟨rfl, hb⟩
            have hsz9 := hb.size
            replace V5 := Lib.hid (V5.out.below hb V5.out.lt)
            replace V8 := Lib.hid (V8.out.below hb V8.out.lt)
            replace V9 := Lib.hid (V9.out.below hb V9.out.lt)
            replace V10 := Lib.hid (V10.out.below hb V10.out.lt)
            replace D := Lib.hid (D.out.below hb)
            replace SA := Lib.hid (SA.out.below hb)
            replace OW := Lib.hid (OW.out.below hb)
            replace BB := Lib.hid (BB.out.trans ((hb).mono BB.out.size))
            clear hb
            clear cV50 cV51 cV52 cV53 lV5
            clear c80 c81 c82 c83 l8
            have hB9 : B ≤ W161.heap.size := Nat.le_trans hBW hsz9
            go_wp2_with fail
            refine ⟨⟨k + 1, x1, wt2, room, fs, ss, l2, p2, cap2, by omega, by go_num, rfl, rfl, OW, IX, AOK2, by have := HW2.out; omega, hrm, V5, V8, V9, V10, D, SX, SV2, SA, hB9, BB⟩, ?_⟩
            simp only [intOf]; omega
        | true =>
          by_cases hst : room < wt.length
          case pos =>
            go_upto_region 23 with fail
            clear c140 l14
            have QD := Lib.hid IV.out.1
            have cV50 := V5.out.cell 0
            have cV51 := V5.out.cell 1
            have cV52 := V5.out.cell 2
            have cV53 := V5.out.cell 3
            have lV5 := V5.out.lt
            have l5 := V5.out.lt
            have l8 := V8.out.lt
            have l9 := V9.out.lt
            have l10 := V10.out.lt
            have lw := fun g hg => (World.ownsRow.lt OW.out g hg).2
            go_wp2_with fail
            refine (sync_X d _ D).mono ?_
            rintro e W201 ⟨⟨x, er, rfl, hd, hf, hs⟩, hb⟩
            have hszA := hb.size
            replace V5 := Lib.hid (V5.out.below hb V5.out.lt)
            replace V8 := Lib.hid (V8.out.below hb V8.out.lt)
            replace V9 := Lib.hid (V9.out.below hb V9.out.lt)
            replace V10 := Lib.hid (V10.out.below hb V10.out.lt)
            replace D := Lib.hid (D.out.below hb)
            replace SA := Lib.hid (SA.out.below hb)
            replace OW := Lib.hid (OW.out.below hb)
            replace V14 := Lib.hid (V14.out.below hb V14.out.lt)
            replace BB := Lib.hid (BB.out.trans ((hb).mono BB.out.size))
            clear hb
            have hsz9 := Nat.le_refl B
            have DX := Lib.hid hd
            have FX := Lib.hid (show Synced d x ∧ er = (if stopB d.left d.ws.length then 40 else 0) by
              rcases hf with ⟨h, _⟩ | ⟨_, h1, h2⟩
              · rw [QD.out] at h; cases h
              · exact ⟨h2, h1⟩)
            have SX := Lib.hid (show Seps x nV5 n8 from ⟨hs _ l5 SEP.out.1, hs _ l8 SEP.out.2.1, hs _ l9 SEP.out.2.2.1, hs _ l10 SEP.out.2.2.2⟩)
            have SVX := Lib.hid (show SepV x (.slice p wt.length cap) from fun g hg => hs g (lw g hg) (SV.out g hg))
            clear hd hf hs hsz9
            clear cV50 cV51 cV52 cV53 lV5
            clear l5 l8 l9 l10 lw
            have hB17 : B ≤ W201.heap.size := Nat.le_trans hBW hszA
            have hb := bel_alloc1 W201 (.cells x.c 25)
            replace V5 := Lib.hid (V5.out.below hb V5.out.lt)
            replace V8 := Lib.hid (V8.out.below hb V8.out.lt)
            replace V9 := Lib.hid (V9.out.below hb V9.out.lt)
            replace V10 := Lib.hid (V10.out.below hb V10.out.lt)
            replace D := Lib.hid (D.out.below hb)
            replace SA := Lib.hid (SA.out.below hb)
            replace OW := Lib.hid (OW.out.below hb)
            replace V14 := Lib.hid (V14.out.below hb V14.out.lt)
            replace DX := Lib.hid (DX.out.below hb)
            replace BB := Lib.hid (BB.out.trans ((hb).mono BB.out.size))
            clear hb
            have V17 := Lib.hid (Blk.new W201 x.c 25)
            go_upto_region 24 with fail
            generalize World.alloc W201 _ = W202 at BB V5 V8 V9 V10 D SA OW V14 DX V17 ⊢
            generalize W201.heap.size = nV17 at V17 hB17 ⊢
            have HST := Lib.hid (inv_stop IV.out FX.out.1 hst)
            have hdec : decide (room < wt.length) = true := by simpa using hst
            have her := Lib.hid (show er = 40 by rw [FX.out.2, HST.out.1]; rfl)
            have hre := her.out
            subst hre
            have HIL := Lib.hid (inv_lens IV.out)
            clear her D V14
            go_wp2_with fail
            go_loopw [20] (fun i wr => ∃ j : Nat, j ≤ wt.length ∧ j ≤ room + 1 ∧ i = .int .i64 j ∧ Hid (Blk wr nV5 d.c 25) ∧ Hid (Blk wr n8 (A4 ls) 44) ∧ Hid (Blk wr (n8 + 1) (A4 (upd fs (wt.take j))) 44) ∧ Hid (Blk wr (n8 + 1 + 1) (A4 (upd ss (wt.take (min j room)))) 44) ∧ Hid (Blk wr nV17 x.c 25) ∧ Hid (DkOk wr x) ∧ Hid (ActsV wr (some ⟨ba, oa, none⟩) sn qs) ∧ Hid (OwnA wr B (.slice p wt.length cap) wt) ∧ B ≤ wr.heap.size ∧ Hid (Below w.heap.size w wr)) (fun i _ => wt.length - (intOf i).toNat)
            case atStart => exact ⟨0, Nat.zero_le _, by omega, rfl, V5, V8, V9, by rw [Nat.zero_min]; exact V10, V17, DX, SA, OW, Nat.le_trans hB17 (Nat.le_of_lt V17.out.lt), BB⟩
            case round =>
              obtain ⟨j, hj1, hj2, rfl, V5x, V8x, V9x, V10x, V17x, DXx, SAx, OWx, hBWx, BBx⟩ := hrel
              clear V5 V8 V9 V10 V17 DX SA OW BB
              have V5 := V5x; have V8 := V8x; have V9 := V9x; have V10 := V10x; have V17 := V17x; have DX := DXx; have SA := SAx; have OW := OWx; have BB := BBx
              clear V5x V8x V9x V10x V17x DXx SAx OWx BBx
              by_cases hgo : j < wt.length ∧ j ≤ room
              case pos =>
                have hj := hgo.1
                have hjr := hgo.2
                obtain ⟨p', cap', hv', hav, hpB⟩ := OwnA.val OW.out AOK.out (by omega)
                have e1 : p = p' := by injection hv'
                subst e1
                clear hv'
                obtain ⟨bw, ow, hpw, hbw, hw0, hw1, hw2, hwok⟩ := hav.at hj
                clear hav
                have hBb := hpB _ hpw
                dsimp only at hBb
                subst hpw
                clear hpB
                obtain ⟨⟨wsy, wpos, wbyt⟩, hx⟩ : ∃ y, wt.getD j ac0 = y := ⟨_, rfl⟩
                rw [hx] at hw0 hw1 hw2 hwok
                dsimp only at hw0 hw1 hw2
                clear hw0
                have HX := Lib.hid hx
                clear hx
                have hq4j := q4_lt ⟨wsy, wpos, wbyt⟩
                have HQJ := Lib.hid (q4_int ⟨wsy, wpos, wbyt⟩)
                obtain ⟨qj, hqj⟩ : ∃ q, q4 ⟨wsy, wpos, wbyt⟩ = q := ⟨_, rfl⟩
                rw [hqj] at hq4j HQJ
                have HJJ := Lib.hid hqj
                clear hqj
                have hwp0 : 0 ≤ wpos := hwok.1.1
                have hwp1 : wpos ≤ 255 := hwok.1.2
                have HTJ := Lib.hid (show wpos.tmod 4 = (qj : Int) by rw [Int.tmod_eq_emod_of_nonneg hwp0]; exact HQJ.out)
                have HQ4 := Lib.hid hq4j
                clear hq4j hwok HQJ hwp0 hwp1
                have HV9E := Lib.hid (show (upd fs (wt.take j)).set qj wbyt = upd fs (wt.take (j + 1)) by rw [take_snocD wt j ac0 hj, upd_snoc, HX.out, HJJ.out])
                have HV10E := Lib.hid (show (upd ss (wt.take j)).set qj wbyt = upd ss (wt.take (j + 1)) by rw [take_snocD wt j ac0 hj, upd_snoc, HX.out, HJJ.out])
                have hmin : min j room = j := by omega
                rw [hmin] at V10
                clear hmin HX HJJ
                have hBW := hBWx
                clear hBWx
                go_upto_region 28 with fail
                refine wp_region_any (by kernel_rfl) ?_
                change wpAny _ _ _ _ _ _ _ (World.drew _)
                replace V5 := Lib.hid (V5.out.below ((Below.refl wr.heap.size wr).drew) V5.out.lt)
                replace V8 := Lib.hid (V8.out.below ((Below.refl wr.heap.size wr).drew) V8.out.lt)
                replace V9 := Lib.hid (V9.out.below ((Below.refl wr.heap.size wr).drew) V9.out.lt)
                replace V10 := Lib.hid (V10.out.below ((Below.refl wr.heap.size wr).drew) V10.out.lt)
                replace V17 := Lib.hid (V17.out.below ((Below.refl wr.heap.size wr).drew) V17.out.lt)
                replace DX := Lib.hid (DX.out.below ((Below.refl wr.heap.size wr).drew))
                replace SA := Lib.hid (SA.out.below ((Below.refl wr.heap.size wr).drew))
                replace OW := Lib.hid (OW.out.below ((Below.refl wr.heap.size wr).drew))
                replace BB := Lib.hid (BB.out.trans (Below.mono ((Below.refl wr.heap.size wr).drew) BB.out.size))
                replace hw1 := (Below.cell ((Below.refl wr.heap.size wr).drew) (p := ⟨bw, ow + j * 3 + 1, none⟩) hbw).trans hw1
                replace hw2 := (Below.cell ((Below.refl wr.heap.size wr).drew) (p := ⟨bw, ow + j * 3 + 2, none⟩) hbw).trans hw2
                replace hbw := Nat.lt_of_lt_of_le hbw (Below.size ((Below.refl wr.heap.size wr).drew))
                replace hBW := Nat.le_trans hBW (Below.size ((Below.refl wr.heap.size wr).drew))
                generalize World.drew wr = WA1 at V5 V8 V9 V10 V17 DX SA OW BB hw1 hw2 hbw hBW ⊢
                have A1 := Lib.hid (fun u (hu : Ext WA1 u) => (Below.cell hu (p := ⟨bw, ow + j * 3 + 1, none⟩) hbw).trans hw1)
                have A2 := Lib.hid (fun u (hu : Ext WA1 u) => (Below.cell hu (p := ⟨bw, ow + j * 3 + 2, none⟩) hbw).trans hw2)
                have hCD : ∀ u, Ext WA1 u → Ext WA1 u := fun u hu => hu
                refine region_U (D := Ext WA1) (Ext WA1) [12] (Ext.refl WA1) ?_
                refine anyU_takeD (i := 0) (v := .slice (some ⟨bw, ow, none⟩) wt.length cap) 104 rfl rfl (by kernel_rfl) (by kernel_rfl) (by kernel_rfl) (fun _ _ _ h => h) (by kernel_rfl) (Ext.stable _) hCD (yieldsU_val rfl (fun u hu => by go_simp)) ?_
                refine anyU_takeD (i := 1) (v := .int .i64 (j : Int)) 105 rfl rfl (by kernel_rfl) (by kernel_rfl) (by kernel_rfl) (fun _ _ _ h => h) (by kernel_rfl) (Ext.stable _) hCD (yieldsU_val rfl (fun u hu => by go_simp)) ?_
                refine anyU_takeD (i := 2) (v := .pointer (some ⟨bw, ow + j * 3, none⟩)) 106 rfl rfl (by kernel_rfl) (by kernel_rfl) (by kernel_rfl) (fun _ _ _ h => h) (by kernel_rfl) (Ext.stable _) hCD (yieldsU_val rfl (fun u hu => by go_simp)) ?_
                refine anyU_takeD (i := 3) (v := .pointer (some ⟨bw, ow + j * 3 + 1, none⟩)) 107 rfl rfl (by kernel_rfl) (by kernel_rfl) (by kernel_rfl) (fun _ _ _ h => h) (by kernel_rfl) (Ext.stable _) hCD (yieldsU_val rfl (fun u hu => by go_simp)) ?_
                refine anyU_takeD (i := 4) (v := .int .u8 wpos) 108 rfl rfl (by kernel_rfl) (by kernel_rfl) (by kernel_rfl) (fun _ _ _ h => h) (by kernel_rfl) (Ext.stable _) hCD (yieldsU_val rfl (fun u hu => by have c := A1.out u hu; go_simp)) ?_
                refine anyU_takeD (i := 5) (v := .int .u8 (qj : Int)) 109 rfl rfl (by kernel_rfl) (by kernel_rfl) (by kernel_rfl) (fun _ _ _ h => h) (by kernel_rfl) (Ext.stable _) hCD (yieldsU_val rfl (fun u hu => by have c := HTJ.out; go_simp)) ?_
                simp only [Act.put, List.setIfInBounds_toArray, List.set_cons_succ, List.set_cons_zero]
                refine anyU_takeD (i := 6) (v := .slice (some ⟨bw, ow, none⟩) wt.length cap) 110 rfl rfl (by kernel_rfl) (by kernel_rfl) (by kernel_rfl) (fun _ _ _ h => h) (by kernel_rfl) (Ext.stable _) hCD (yieldsU_val rfl (fun u hu => by go_simp)) ?_
                refine anyU_takeD (i := 7) (v := .int .i64 (j : Int)) 111 rfl rfl (by kernel_rfl) (by kernel_rfl) (by kernel_rfl) (fun _ _ _ h => h) (by kernel_rfl) (Ext.stable _) hCD (yieldsU_val rfl (fun u hu => by go_simp)) ?_
                refine anyU_takeD (i := 8) (v := .pointer (some ⟨bw, ow + j * 3, none⟩)) 112 rfl rfl (by kernel_rfl) (by kernel_rfl) (by kernel_rfl) (fun _ _ _ h => h) (by kernel_rfl) (Ext.stable _) hCD (yieldsU_val rfl (fun u hu => by go_simp)) ?_
                refine anyU_takeD (i := 9) (v := .pointer (some ⟨bw, ow + j * 3 + 2, none⟩)) 113 rfl rfl (by kernel_rfl) (by kernel_rfl) (by kernel_rfl) (fun _ _ _ h => h) (by kernel_rfl) (Ext.stable _) hCD (yieldsU_val rfl (fun u hu => by go_simp)) ?_
                refine anyU_takeD (i := 10) (v := .int .u8 wbyt) 114 rfl rfl (by kernel_rfl) (by kernel_rfl) (by kernel_rfl) (fun _ _ _ h => h) (by kernel_rfl) (Ext.stable _) hCD (yieldsU_val rfl (fun u hu => by have c := A2.out u hu; go_simp)) ?_
                refine anyU_takeD (i := 11) (v := .pointer (some ⟨n8 + 1, qj, none⟩)) 115 rfl rfl (by kernel_rfl) (by kernel_rfl) (by kernel_rfl) (fun _ _ _ h => h) (by kernel_rfl) (Ext.stable _) hCD (yieldsU_val rfl (fun u hu => by have c := HQ4.out; go_simp; intro h; omega)) ?_
                simp only [Act.put, List.setIfInBounds_toArray, List.set_cons_succ, List.set_cons_zero]
                refine anyU_tail 12 [] rfl rfl (by decide) (by kernel_rfl) ?_
                intro WB1 hu2
                simp only [Act.put, List.filterMap_cons, List.filterMap_nil, List.getElem?_cons_succ, List.getElem?_cons_zero]
                replace V5 := Lib.hid (V5.out.below hu2 V5.out.lt)
                replace V8 := Lib.hid (V8.out.below hu2 V8.out.lt)
                replace V9 := Lib.hid (V9.out.below hu2 V9.out.lt)
                replace V10 := Lib.hid (V10.out.below hu2 V10.out.lt)
                replace V17 := Lib.hid (V17.out.below hu2 V17.out.lt)
                replace DX := Lib.hid (DX.out.below hu2)
                replace SA := Lib.hid (SA.out.below hu2)
                replace OW := Lib.hid (OW.out.below hu2)
                replace BB := Lib.hid (BB.out.trans (Below.mono hu2 BB.out.size))
                replace hw1 := A1.out WB1 hu2
                replace hw2 := A2.out WB1 hu2
                replace hbw := Nat.lt_of_lt_of_le hbw (Below.size hu2)
                replace hBW := Nat.le_trans hBW (Below.size hu2)
                clear A1 A2 hu2 hCD
                have hq4j := HQ4.out
                have fq := V9.out.frozen qj
                have lq := V9.out.lt
                have cq : WB1.cell? ⟨n8 + 1, qj, none⟩ = some (.int .u8 ((upd fs (wt.take j)).getD qj 0)) := by rw [V9.out.cell qj]; exact a4_get (upd fs (wt.take j)) qj hq4j
                have X5 := V5.out.other (b' := n8 + 1) qj (.int .u8 wbyt) (by omega)
                have X8 := V8.out.other (b' := n8 + 1) qj (.int .u8 wbyt) (by omega)
                have X9 := V9.out.set qj (.int .u8 wbyt)
                have X10 := V10.out.other (b' := n8 + 1) qj (.int .u8 wbyt) (by omega)
                have X17 := V17.out.other (b' := n8 + 1) qj (.int .u8 wbyt) (by omega)
                have XD := DX.out.set (o := qj) (v := (.int .u8 wbyt)) SX.out.2.2.1
                have XO := OW.out.set (b := n8 + 1) (o := qj) (x := (.int .u8 wbyt)) (by omega)
                have XB := BB.out.setCell (p := ⟨n8 + 1, qj, none⟩) (by show w.heap.size ≤ n8 + 1; omega) (.int .u8 wbyt)
                have XS := SA.out.set (o := qj) (v := (.int .u8 wbyt)) (b := n8 + 1) (fun h a ha => by have := HA.out a ha h; omega)
                have XZ : B ≤ (WB1.setCell ⟨n8 + 1, qj, none⟩ (.int .u8 wbyt)).heap.size := by simp only [World.size_setCell]; exact hBW
                have XL : bw < (WB1.setCell ⟨n8 + 1, qj, none⟩ (.int .u8 wbyt)).heap.size := by simp only [World.size_setCell]; exact hbw
                have hk1 : (WB1.setCell ⟨n8 + 1, qj, none⟩ (.int .u8 wbyt)).cell? ⟨bw, ow + j * 3 + 1, none⟩ = WB1.cell? ⟨bw, ow + j * 3 + 1, none⟩ := World.cell?_of_block (a := ⟨bw, ow + j * 3 + 1, none⟩) (Below.heap_setCell WB1 ⟨n8 + 1, qj, none⟩ (.int .u8 wbyt) bw (by show bw ≠ n8 + 1; omega))
                have hk2 : (WB1.setCell ⟨n8 + 1, qj, none⟩ (.int .u8 wbyt)).cell? ⟨bw, ow + j * 3 + 2, none⟩ = WB1.cell? ⟨bw, ow + j * 3 + 2, none⟩ := World.cell?_of_block (a := ⟨bw, ow + j * 3 + 2, none⟩) (Below.heap_setCell WB1 ⟨n8 + 1, qj, none⟩ (.int .u8 wbyt) bw (by show bw ≠ n8 + 1; omega))
                replace hw1 := hk1.trans hw1
                replace hw2 := hk2.trans hw2
                clear hk1 hk2
                rw [a4_set (by rw [upd_len]; exact HIL.out.1) hq4j, HV9E.out] at X9
                go_upto_region 29 with fail
                generalize WB1.setCell ⟨n8 + 1, qj, none⟩ (.int .u8 wbyt) = WC1 at X5 X8 X9 X10 X17 XD XO XB XS XZ XL hw1 hw2 ⊢
                clear V5 V8 V9 V10 V17 DX OW BB SA hBW hbw cq fq lq hq4j
                have V5 := Lib.hid X5; have V8 := Lib.hid X8; have V9 := Lib.hid X9; have V10 := Lib.hid X10; have V17 := Lib.hid X17; have DX := Lib.hid XD; have OW := Lib.hid XO; have BB := Lib.hid XB; have SA := Lib.hid XS; have hBW := XZ; have hbw := XL
                clear X5 X8 X9 X10 X17 XD XO XB XS XZ XL
                by_cases hr : j < room
                case pos =>
                  go_upto_region 30 with fail
                  refine wp_region_any (by kernel_rfl) ?_
                  change wpAny _ _ _ _ _ _ _ (World.drew _)
                  replace V5 := Lib.hid (V5.out.below ((Below.refl WC1.heap.size WC1).drew) V5.out.lt)
                  replace V8 := Lib.hid (V8.out.below ((Below.refl WC1.heap.size WC1).drew) V8.out.lt)
                  replace V9 := Lib.hid (V9.out.below ((Below.refl WC1.heap.size WC1).drew) V9.out.lt)
                  replace V10 := Lib.hid (V10.out.below ((Below.refl WC1.heap.size WC1).drew) V10.out.lt)
                  replace V17 := Lib.hid (V17.out.below ((Below.refl WC1.heap.size WC1).drew) V17.out.lt)
                  replace DX := Lib.hid (DX.out.below ((Below.refl WC1.heap.size WC1).drew))
                  replace SA := Lib.hid (SA.out.below ((Below.refl WC1.heap.size WC1).drew))
                  replace OW := Lib.hid (OW.out.below ((Below.refl WC1.heap.size WC1).drew))
                  replace BB := Lib.hid (BB.out.trans (Below.mono ((Below.refl WC1.heap.size WC1).drew) BB.out.size))
                  replace hw1 := (Below.cell ((Below.refl WC1.heap.size WC1).drew) (p := ⟨bw, ow + j * 3 + 1, none⟩) hbw).trans hw1
                  replace hw2 := (Below.cell ((Below.refl WC1.heap.size WC1).drew) (p := ⟨bw, ow + j * 3 + 2, none⟩) hbw).trans hw2
                  replace hbw := Nat.lt_of_lt_of_le hbw (Below.size ((Below.refl WC1.heap.size WC1).drew))
                  replace hBW := Nat.le_trans hBW (Below.size ((Below.refl WC1.heap.size WC1).drew))
                  generalize World.drew WC1 = WA2 at V5 V8 V9 V10 V17 DX SA OW BB hw1 hw2 hbw hBW ⊢
                  have A1 := Lib.hid (fun u (hu : Ext WA2 u) => (Below.cell hu (p := ⟨bw, ow + j * 3 + 1, none⟩) hbw).trans hw1)
                  have A2 := Lib.hid (fun u (hu : Ext WA2 u) => (Below.cell hu (p := ⟨bw, ow + j * 3 + 2, none⟩) hbw).trans hw2)
                  have hCD : ∀ u, Ext WA2 u → Ext WA2 u := fun u hu => hu
                  refine region_U (D := Ext WA2) (Ext WA2) [12] (Ext.refl WA2) ?_
                  refine anyU_takeD (i := 0) (v := .slice (some ⟨bw, ow, none⟩) wt.length cap) 119 rfl rfl (by kernel_rfl) (by kernel_rfl) (by kernel_rfl) (fun _ _ _ h => h) (by kernel_rfl) (Ext.stable _) hCD (yieldsU_val rfl (fun u hu => by go_simp)) ?_
                  refine anyU_takeD (i := 1) (v := .int .i64 (j : Int)) 120 rfl rfl (by kernel_rfl) (by kernel_rfl) (by kernel_rfl) (fun _ _ _ h => h) (by kernel_rfl) (Ext.stable _) hCD (yieldsU_val rfl (fun u hu => by go_simp)) ?_
                  refine anyU_takeD (i := 2) (v := .pointer (some ⟨bw, ow + j * 3, none⟩)) 121 rfl rfl (by kernel_rfl) (by kernel_rfl) (by kernel_rfl) (fun _ _ _ h => h) (by kernel_rfl) (Ext.stable _) hCD (yieldsU_val rfl (fun u hu => by go_simp)) ?_
                  refine anyU_takeD (i := 3) (v := .pointer (some ⟨bw, ow + j * 3 + 1, none⟩)) 122 rfl rfl (by kernel_rfl) (by kernel_rfl) (by kernel_rfl) (fun _ _ _ h => h) (by kernel_rfl) (Ext.stable _) hCD (yieldsU_val rfl (fun u hu => by go_simp)) ?_
                  refine anyU_takeD (i := 4) (v := .int .u8 wpos) 123 rfl rfl (by kernel_rfl) (by kernel_rfl) (by kernel_rfl) (fun _ _ _ h => h) (by kernel_rfl) (Ext.stable _) hCD (yieldsU_val rfl (fun u hu => by have c := A1.out u hu; go_simp)) ?_
                  refine anyU_takeD (i := 5) (v := .int .u8 (qj : Int)) 124 rfl rfl (by kernel_rfl) (by kernel_rfl) (by kernel_rfl) (fun _ _ _ h => h) (by kernel_rfl) (Ext.stable _) hCD (yieldsU_val rfl (fun u hu => by have c := HTJ.out; go_simp)) ?_
                  simp only [Act.put, List.setIfInBounds_toArray, List.set_cons_succ, List.set_cons_zero]
                  refine anyU_takeD (i := 6) (v := .slice (some ⟨bw, ow, none⟩) wt.length cap) 125 rfl rfl (by kernel_rfl) (by kernel_rfl) (by kernel_rfl) (fun _ _ _ h => h) (by kernel_rfl) (Ext.stable _) hCD (yieldsU_val rfl (fun u hu => by go_simp)) ?_
                  refine anyU_takeD (i := 7) (v := .int .i64 (j : Int)) 126 rfl rfl (by kernel_rfl) (by kernel_rfl) (by kernel_rfl) (fun _ _ _ h => h) (by kernel_rfl) (Ext.stable _) hCD (yieldsU_val rfl (fun u hu => by go_simp)) ?_
                  refine anyU_takeD (i := 8) (v := .pointer (some ⟨bw, ow + j * 3, none⟩)) 127 rfl rfl (by kernel_rfl) (by kernel_rfl) (by kernel_rfl) (fun _ _ _ h => h) (by kernel_rfl) (Ext.stable _) hCD (yieldsU_val rfl (fun u hu => by go_simp)) ?_
                  refine anyU_takeD (i := 9) (v := .pointer (some ⟨bw, ow + j * 3 + 2, none⟩)) 128 rfl rfl (by kernel_rfl) (by kernel_rfl) (by kernel_rfl) (fun _ _ _ h => h) (by kernel_rfl) (Ext.stable _) hCD (yieldsU_val rfl (fun u hu => by go_simp)) ?_
                  refine anyU_takeD (i := 10) (v := .int .u8 wbyt) 129 rfl rfl (by kernel_rfl) (by kernel_rfl) (by kernel_rfl) (fun _ _ _ h => h) (by kernel_rfl) (Ext.stable _) hCD (yieldsU_val rfl (fun u hu => by have c := A2.out u hu; go_simp)) ?_
                  refine anyU_takeD (i := 11) (v := .pointer (some ⟨n8 + 1 + 1, qj, none⟩)) 130 rfl rfl (by kernel_rfl) (by kernel_rfl) (by kernel_rfl) (fun _ _ _ h => h) (by kernel_rfl) (Ext.stable _) hCD (yieldsU_val rfl (fun u hu => by have c := HQ4.out; go_simp; intro h; omega)) ?_
                  simp only [Act.put, List.setIfInBounds_toArray, List.set_cons_succ, List.set_cons_zero]
                  refine anyU_tail 12 [] rfl rfl (by decide) (by kernel_rfl) ?_
                  intro WB2 hu2
                  simp only [Act.put, List.filterMap_cons, List.filterMap_nil, List.getElem?_cons_succ, List.getElem?_cons_zero]
                  replace V5 := Lib.hid (V5.out.below hu2 V5.out.lt)
                  replace V8 := Lib.hid (V8.out.below hu2 V8.out.lt)
                  replace V9 := Lib.hid (V9.out.below hu2 V9.out.lt)
                  replace V10 := Lib.hid (V10.out.below hu2 V10.out.lt)
                  replace V17 := Lib.hid (V17.out.below hu2 V17.out.lt)
                  replace DX := Lib.hid (DX.out.below hu2)
                  replace SA := Lib.hid (SA.out.below hu2)
                  replace OW := Lib.hid (OW.out.below hu2)
                  replace BB := Lib.hid (BB.out.trans (Below.mono hu2 BB.out.size))
                  replace hw1 := A1.out WB2 hu2
                  replace hw2 := A2.out WB2 hu2
                  replace hbw := Nat.lt_of_lt_of_le hbw (Below.size hu2)
                  replace hBW := Nat.le_trans hBW (Below.size hu2)
                  clear A1 A2 hu2 hCD
                  have hq4j := HQ4.out
                  have fq := V10.out.frozen qj
                  have lq := V10.out.lt
                  have cq : WB2.cell? ⟨n8 + 1 + 1, qj, none⟩ = some (.int .u8 ((upd ss (wt.take j)).getD qj 0)) := by rw [V10.out.cell qj]; exact a4_get (upd ss (wt.take j)) qj hq4j
                  have X5 := V5.out.other (b' := n8 + 1 + 1) qj (.int .u8 wbyt) (by omega)
                  have X8 := V8.out.other (b' := n8 + 1 + 1) qj (.int .u8 wbyt) (by omega)
                  have X9 := V9.out.other (b' := n8 + 1 + 1) qj (.int .u8 wbyt) (by omega)
                  have X10 := V10.out.set qj (.int .u8 wbyt)
                  have X17 := V17.out.other (b' := n8 + 1 + 1) qj (.int .u8 wbyt) (by omega)
                  have XD := DX.out.set (o := qj) (v := (.int .u8 wbyt)) SX.out.2.2.2
                  have XO := OW.out.set (b := n8 + 1 + 1) (o := qj) (x := (.int .u8 wbyt)) (by omega)
                  have XB := BB.out.setCell (p := ⟨n8 + 1 + 1, qj, none⟩) (by show w.heap.size ≤ n8 + 1 + 1; omega) (.int .u8 wbyt)
                  have XS := SA.out.set (o := qj) (v := (.int .u8 wbyt)) (b := n8 + 1 + 1) (fun h a ha => by have := HA.out a ha h; omega)
                  have XZ : B ≤ (WB2.setCell ⟨n8 + 1 + 1, qj, none⟩ (.int .u8 wbyt)).heap.size := by simp only [World.size_setCell]; exact hBW
                  have XL : bw < (WB2.setCell ⟨n8 + 1 + 1, qj, none⟩ (.int .u8 wbyt)).heap.size := by simp only [World.size_setCell]; exact hbw
                  have hk1 : (WB2.setCell ⟨n8 + 1 + 1, qj, none⟩ (.int .u8 wbyt)).cell? ⟨bw, ow + j * 3 + 1, none⟩ = WB2.cell? ⟨bw, ow + j * 3 + 1, none⟩ := World.cell?_of_block (a := ⟨bw, ow + j * 3 + 1, none⟩) (Below.heap_setCell WB2 ⟨n8 + 1 + 1, qj, none⟩ (.int .u8 wbyt) bw (by show bw ≠ n8 + 1 + 1; omega))
                  have hk2 : (WB2.setCell ⟨n8 + 1 + 1, qj, none⟩ (.int .u8 wbyt)).cell? ⟨bw, ow + j * 3 + 2, none⟩ = WB2.cell? ⟨bw, ow + j * 3 + 2, none⟩ := World.cell?_of_block (a := ⟨bw, ow + j * 3 + 2, none⟩) (Below.heap_setCell WB2 ⟨n8 + 1 + 1, qj, none⟩ (.int .u8 wbyt) bw (by show bw ≠ n8 + 1 + 1; omega))
                  replace hw1 := hk1.trans hw1
                  replace hw2 := hk2.trans hw2
                  clear hk1 hk2
                  rw [a4_set (by rw [upd_len]; exact HIL.out.2.1) hq4j, HV10E.out] at X10
                  go_wp2_with fail
                  generalize WB2.setCell ⟨n8 + 1 + 1, qj, none⟩ (.int .u8 wbyt) = WC2 at X5 X8 X9 X10 X17 XD XO XB XS XZ XL hw1 hw2 ⊢
                  clear V5 V8 V9 V10 V17 DX OW BB SA hBW hbw cq fq lq hq4j
                  have V5 := Lib.hid X5; have V8 := Lib.hid X8; have V9 := Lib.hid X9; have V10 := Lib.hid X10; have V17 := Lib.hid X17; have DX := Lib.hid XD; have OW := Lib.hid XO; have BB := Lib.hid XB; have SA := Lib.hid XS; have hBW := XZ; have hbw := XL
                  clear X5 X8 X9 X10 X17 XD XO XB XS XZ XL
                  refine ⟨⟨j + 1, by omega, by omega, by go_num, V5, V8, V9, by rw [show min (j + 1) room = j + 1 by omega]; exact V10, V17, DX, SA, OW, hBW, BB⟩, ?_⟩
                  simp only [intOf]; omega
                case neg =>
                  go_wp2_with fail
                  refine ⟨⟨j + 1, by omega, by omega, by go_num, V5, V8, V9, by rw [show min (j + 1) room = j by omega]; exact V10, V17, DX, SA, OW, hBW, BB⟩, ?_⟩
                  simp only [intOf]; omega
              case neg =>
                obtain rfl : j = room + 1 := by omega
                have hmin : min (room + 1) room = room := by omega
                rw [hmin] at V10
                clear hmin
                go_upto_region 26 with fail
                go_cut [101] (fun s101 wx => s101 = .bool false ∧ wx = wr)
                case first =>
                  by_cases hjl : room + 1 < wt.length
                  · go_wp2_with fail
                    go_meet
                    exact ⟨by rw [decide_eq_false (by omega)], rfl⟩
                  · go_wp2_with fail
                    go_meet
                    exact ⟨rfl, rfl⟩
                case rest =>
                  obtain ⟨rfl, hwc⟩ := hcut
                  subst hwc
                  obtain ⟨f2, hf2⟩ : ∃ l, upd fs (wt.take (room + 1)) = l := ⟨_, rfl⟩
                  obtain ⟨s2, hs2⟩ : ∃ l, upd ss (wt.take room) = l := ⟨_, rfl⟩
                  have HS3 := Lib.hid HST.out.2.2
                  rw [hf2] at V9 HS3
                  rw [hs2] at V10 HS3
                  clear hf2 hs2
                  have HRE := Lib.hid (re_holds HST.out.2.1 HS3.out)
                  have HOK := Lib.hid (re_run (synced_ok FX.out.1 IV.out.1))
                  have NX := Lib.hid (show x.re.ns = 4 from (DX.out.lens.1).trans HST.out.2.1)
                  have HXS := Lib.hid (show x.st = true by rw [FX.out.1.2.2.2.2.1]; exact HST.out.1)
                  go_upto_region 32 with fail
                  refine wp_region_any (by kernel_rfl) ?_
                  change wpAny _ _ _ _ _ _ _ (World.drew _)
                  replace V17 := Lib.hid (V17.out.below ((Below.refl wc.heap.size wc).drew) V17.out.lt)
                  replace V9 := Lib.hid (V9.out.below ((Below.refl wc.heap.size wc).drew) V9.out.lt)
                  replace V10 := Lib.hid (V10.out.below ((Below.refl wc.heap.size wc).drew) V10.out.lt)
                  replace DX := Lib.hid (DX.out.below ((Below.refl wc.heap.size wc).drew))
                  replace BB := Lib.hid (BB.out.trans (Below.mono ((Below.refl wc.heap.size wc).drew) BB.out.size))
                  generalize World.drew wc = WE at V17 V9 V10 DX BB ⊢
                  have hCD : ∀ u, Ext WE u → Ext WE u := fun u hu => hu
                  refine region_U (D := Ext WE) (Ext WE) [13] (Ext.refl WE) ?_
                  refine anyU_takeD (i := 0) (v := .int .i64 40) 132 rfl rfl (by kernel_rfl) (by kernel_rfl) (by kernel_rfl) (fun _ _ _ h => h) (by kernel_rfl) (Ext.stable _) hCD (yieldsU_val rfl (fun u hu => by go_simp)) ?_
                  refine anyU_takeD (i := 1) (v := .bool true) 133 rfl rfl (by kernel_rfl) (by kernel_rfl) (by kernel_rfl) (fun _ _ _ h => h) (by kernel_rfl) (Ext.stable _) hCD (yieldsU_val rfl (fun u hu => by go_simp)) ?_
                  refine anyU_takeD (i := 2) (v := .bool true) 134 rfl rfl (by kernel_rfl) (by kernel_rfl) (by kernel_rfl) (fun _ _ _ h => h) (by kernel_rfl) (Ext.stable _) hCD (yieldsU_val rfl (fun u hu => by go_simp)) ?_
                  simp only [Act.put, List.setIfInBounds_toArray, List.set_cons_succ, List.set_cons_zero]
                  refine anyU_takeD (i := 3) (v := .pointer (some ⟨nV17, 3, none⟩)) 135 rfl rfl (by kernel_rfl) (by kernel_rfl) (by kernel_rfl) (fun _ _ _ h => h) (by kernel_rfl) (Ext.stable _) hCD (yieldsU_val rfl (fun u hu => by go_simp)) ?_
                  refine anyU_takeD (i := 4) (v := .bool true) 136 rfl rfl (by kernel_rfl) (by kernel_rfl) (by kernel_rfl) (fun _ _ _ h => h) (by kernel_rfl) (Ext.stable _) hCD (yieldsU_val rfl (fun u hu => by have c := (V17.out.below hu V17.out.lt).cell 3; simp at c; have e := HXS.out; rw [e] at c; clear e; go_simp)) ?_
                  refine anyU_takeD (i := 5) (v := .bool true) 137 rfl rfl (by kernel_rfl) (by kernel_rfl) (by kernel_rfl) (fun _ _ _ h => h) (by kernel_rfl) (Ext.stable _) hCD (yieldsU_val rfl (fun u hu => by go_simp)) ?_
                  refine anyU_takeD (i := 6) (v := .bool true) 138 rfl rfl (by kernel_rfl) (by kernel_rfl) (by kernel_rfl) (fun _ _ _ h => h) (by kernel_rfl) (Ext.stable _) hCD (yieldsU_val rfl (fun u hu => by go_simp)) ?_
                  simp only [Act.put, List.setIfInBounds_toArray, List.set_cons_succ, List.set_cons_zero]
                  refine anyU_takeD (i := 7) (v := .agg x.c) 139 rfl rfl (by kernel_rfl) (by kernel_rfl) (by kernel_rfl) (fun _ _ _ h => h) (by kernel_rfl) (Ext.stable _) hCD (yieldsU_val rfl (fun u hu => by have c := (V17.out.below hu V17.out.lt).cell 0; have c1 := (V17.out.below hu V17.out.lt).cell 1; have c2 := (V17.out.below hu V17.out.lt).cell 2; have c3 := (V17.out.below hu V17.out.lt).cell 3; simp at c c1 c2 c3; go_simp)) ?_
                  refine anyU_takeD (i := 8) (v := .agg (dskC x.ps x.ns x.cs none 0 0 (-1) false)) 140 rfl rfl (by kernel_rfl) (by kernel_rfl) (by kernel_rfl) (fun _ _ _ h => h) (by kernel_rfl) (Ext.stable _) hCD (yieldsU_call rfl 17 _ _ rfl #[.agg x.c] (by simp [Act.eval, Act.put]) (fun u => by go_simp) (fun u hu => restart_L x u (Lib.hid (DX.out.below hu)))) ?_
                  simp only [Act.put, List.setIfInBounds_toArray, List.set_cons_succ, List.set_cons_zero]
                  refine anyU_takeD (i := 9) (v := .agg #[.int .u8 (f2.getD 0 0), .int .u8 (f2.getD 1 0), .int .u8 (f2.getD 2 0), .int .u8 (f2.getD 3 0)]) 141 rfl rfl (by kernel_rfl) (by kernel_rfl) (by kernel_rfl) (fun _ _ _ h => h) (by kernel_rfl) (Ext.stable _) hCD (yieldsU_val rfl (fun u hu => by have c0 : u.cell? ⟨n8 + 1, 0, none⟩ = some (.int .u8 (f2.getD 0 0)) := (V9.out.below hu V9.out.lt).cell 0; have c1 : u.cell? ⟨n8 + 1, 1, none⟩ = some (.int .u8 (f2.getD 1 0)) := (V9.out.below hu V9.out.lt).cell 1; have c2 : u.cell? ⟨n8 + 1, 2, none⟩ = some (.int .u8 (f2.getD 2 0)) := (V9.out.below hu V9.out.lt).cell 2; have c3 : u.cell? ⟨n8 + 1, 3, none⟩ = some (.int .u8 (f2.getD 3 0)) := (V9.out.below hu V9.out.lt).cell 3; have lq := (V9.out.below hu V9.out.lt).lt; go_simp)) ?_
                  refine anyU_takeD (i := 10) (v := .agg #[.int .u8 (s2.getD 0 0), .int .u8 (s2.getD 1 0), .int .u8 (s2.getD 2 0), .int .u8 (s2.getD 3 0)]) 142 rfl rfl (by kernel_rfl) (by kernel_rfl) (by kernel_rfl) (fun _ _ _ h => h) (by kernel_rfl) (Ext.stable _) hCD (yieldsU_val rfl (fun u hu => by have c0 : u.cell? ⟨n8 + 1 + 1, 0, none⟩ = some (.int .u8 (s2.getD 0 0)) := (V10.out.below hu V10.out.lt).cell 0; have c1 : u.cell? ⟨n8 + 1 + 1, 1, none⟩ = some (.int .u8 (s2.getD 1 0)) := (V10.out.below hu V10.out.lt).cell 1; have c2 : u.cell? ⟨n8 + 1 + 1, 2, none⟩ = some (.int .u8 (s2.getD 2 0)) := (V10.out.below hu V10.out.lt).cell 2; have c3 : u.cell? ⟨n8 + 1 + 1, 3, none⟩ = some (.int .u8 (s2.getD 3 0)) := (V10.out.below hu V10.out.lt).cell 3; have lq := (V10.out.below hu V10.out.lt).lt; go_simp)) ?_
                  refine anyU_takeD (i := 11) (v := .bool true) 143 rfl rfl (by kernel_rfl) (by kernel_rfl) (by kernel_rfl) (fun _ _ _ h => h) (by kernel_rfl) (Ext.stable _) hCD (yieldsU_call rfl 28 _ _ rfl #[.agg (dskC x.ps x.ns x.cs none 0 0 (-1) false), .agg #[.int .u8 (f2.getD 0 0), .int .u8 (f2.getD 1 0), .int .u8 (f2.getD 2 0), .int .u8 (f2.getD 3 0)], .agg #[.int .u8 (s2.getD 0 0), .int .u8 (s2.getD 1 0), .int .u8 (s2.getD 2 0), .int .u8 (s2.getD 3 0)]] (by simp [Act.eval, Act.put]) (fun u => by go_simp) (fun u hu => holds_L x.re f2 s2 u (Lib.hid (DX.out.below hu).re) HOK NX.out HRE)) ?_
                  simp only [Act.put, List.setIfInBounds_toArray, List.set_cons_succ, List.set_cons_zero]
                  refine anyU_takeD (i := 12) (v := .bool true) 144 rfl rfl (by kernel_rfl) (by kernel_rfl) (by kernel_rfl) (fun _ _ _ h => h) (by kernel_rfl) (Ext.stable _) hCD (yieldsU_val rfl (fun u hu => by go_simp)) ?_
                  simp only [Act.put, List.setIfInBounds_toArray, List.set_cons_succ, List.set_cons_zero]
                  refine anyU_tail 13 [] rfl rfl (by decide) (by kernel_rfl) ?_
                  intro u2 hu2
                  simp only [Act.put, List.filterMap_cons, List.filterMap_nil, List.getElem?_cons_succ, List.getElem?_cons_zero]
                  have BZ := Lib.hid (BB.out.trans (Below.mono hu2 BB.out.size))
                  go_wp2_with fail
                  go_ret
                  exact ⟨rfl, BZ.out⟩
          case neg =>
            go_upto_region 23 with fail
            clear c140 l14
            have QD := Lib.hid IV.out.1
            have cV50 := V5.out.cell 0
            have cV51 := V5.out.cell 1
            have cV52 := V5.out.cell 2
            have cV53 := V5.out.cell 3
            have lV5 := V5.out.lt
            have l5 := V5.out.lt
            have l8 := V8.out.lt
            have l9 := V9.out.lt
            have l10 := V10.out.lt
            have lw := fun g hg => (World.ownsRow.lt OW.out g hg).2
            go_wp2_with fail
            refine (sync_X d _ D).mono ?_
            rintro e W201 ⟨⟨x, er, rfl, hd, hf, hs⟩, hb⟩
            have hszA := hb.size
            replace V5 := Lib.hid (V5.out.below hb V5.out.lt)
            replace V8 := Lib.hid (V8.out.below hb V8.out.lt)
            replace V9 := Lib.hid (V9.out.below hb V9.out.lt)
            replace V10 := Lib.hid (V10.out.below hb V10.out.lt)
            replace D := Lib.hid (D.out.below hb)
            replace SA := Lib.hid (SA.out.below hb)
            replace OW := Lib.hid (OW.out.below hb)
            replace V14 := Lib.hid (V14.out.below hb V14.out.lt)
            replace BB := Lib.hid (BB.out.trans ((hb).mono BB.out.size))
            clear hb
            have hsz9 := Nat.le_refl B
            have DX := Lib.hid hd
            have FX := Lib.hid (show Synced d x ∧ er = (if stopB d.left d.ws.length then 40 else 0) by
              rcases hf with ⟨h, _⟩ | ⟨_, h1, h2⟩
              · rw [QD.out] at h; cases h
              · exact ⟨h2, h1⟩)
            have SX := Lib.hid (show Seps x nV5 n8 from ⟨hs _ l5 SEP.out.1, hs _ l8 SEP.out.2.1, hs _ l9 SEP.out.2.2.1, hs _ l10 SEP.out.2.2.2⟩)
            have SVX := Lib.hid (show SepV x (.slice p wt.length cap) from fun g hg => hs g (lw g hg) (SV.out g hg))
            clear hd hf hs hsz9
            clear cV50 cV51 cV52 cV53 lV5
            clear l5 l8 l9 l10 lw
            have hB17 : B ≤ W201.heap.size := Nat.le_trans hBW hszA
            have hb := bel_alloc1 W201 (.cells x.c 25)
            replace V5 := Lib.hid (V5.out.below hb V5.out.lt)
            replace V8 := Lib.hid (V8.out.below hb V8.out.lt)
            replace V9 := Lib.hid (V9.out.below hb V9.out.lt)
            replace V10 := Lib.hid (V10.out.below hb V10.out.lt)
            replace D := Lib.hid (D.out.below hb)
            replace SA := Lib.hid (SA.out.below hb)
            replace OW := Lib.hid (OW.out.below hb)
            replace V14 := Lib.hid (V14.out.below hb V14.out.lt)
            replace DX := Lib.hid (DX.out.below hb)
            replace BB := Lib.hid (BB.out.trans ((hb).mono BB.out.size))
            clear hb
            have V17 := Lib.hid (Blk.new W201 x.c 25)
            go_upto_region 24 with fail
            generalize World.alloc W201 _ = W202 at BB V5 V8 V9 V10 D SA OW V14 DX V17 ⊢
            generalize W201.heap.size = nV17 at V17 hB17 ⊢
            have HSY := Lib.hid (inv_sync IV.out FX.out.1 (by omega))
            have hdec : decide (room < wt.length) = false := by simpa using hst
            have her := Lib.hid (show er = 0 by rw [FX.out.2, HSY.out.1]; rfl)
            have hre := her.out
            subst hre
            have HIL := Lib.hid (inv_lens IV.out)
            clear her D V14
            go_wp2_with fail
            go_loopw [20] (fun i wr => ∃ j : Nat, j ≤ wt.length ∧ j ≤ room + 1 ∧ i = .int .i64 j ∧ Hid (Blk wr nV5 d.c 25) ∧ Hid (Blk wr n8 (A4 ls) 44) ∧ Hid (Blk wr (n8 + 1) (A4 (upd fs (wt.take j))) 44) ∧ Hid (Blk wr (n8 + 1 + 1) (A4 (upd ss (wt.take (min j room)))) 44) ∧ Hid (Blk wr nV17 x.c 25) ∧ Hid (DkOk wr x) ∧ Hid (ActsV wr (some ⟨ba, oa, none⟩) sn qs) ∧ Hid (OwnA wr B (.slice p wt.length cap) wt) ∧ B ≤ wr.heap.size ∧ Hid (Below w.heap.size w wr)) (fun i _ => wt.length - (intOf i).toNat)
            case atStart => exact ⟨0, Nat.zero_le _, by omega, rfl, V5, V8, V9, by rw [Nat.zero_min]; exact V10, V17, DX, SA, OW, Nat.le_trans hB17 (Nat.le_of_lt V17.out.lt), BB⟩
            case round =>
              obtain ⟨j, hj1, hj2, rfl, V5x, V8x, V9x, V10x, V17x, DXx, SAx, OWx, hBWx, BBx⟩ := hrel
              clear V5 V8 V9 V10 V17 DX SA OW BB
              have V5 := V5x; have V8 := V8x; have V9 := V9x; have V10 := V10x; have V17 := V17x; have DX := DXx; have SA := SAx; have OW := OWx; have BB := BBx
              clear V5x V8x V9x V10x V17x DXx SAx OWx BBx
              by_cases hgo : j < wt.length ∧ j ≤ room
              case pos =>
                have hj := hgo.1
                have hjr := hgo.2
                obtain ⟨p', cap', hv', hav, hpB⟩ := OwnA.val OW.out AOK.out (by omega)
                have e1 : p = p' := by injection hv'
                subst e1
                clear hv'
                obtain ⟨bw, ow, hpw, hbw, hw0, hw1, hw2, hwok⟩ := hav.at hj
                clear hav
                have hBb := hpB _ hpw
                dsimp only at hBb
                subst hpw
                clear hpB
                obtain ⟨⟨wsy, wpos, wbyt⟩, hx⟩ : ∃ y, wt.getD j ac0 = y := ⟨_, rfl⟩
                rw [hx] at hw0 hw1 hw2 hwok
                dsimp only at hw0 hw1 hw2
                clear hw0
                have HX := Lib.hid hx
                clear hx
                have hq4j := q4_lt ⟨wsy, wpos, wbyt⟩
                have HQJ := Lib.hid (q4_int ⟨wsy, wpos, wbyt⟩)
                obtain ⟨qj, hqj⟩ : ∃ q, q4 ⟨wsy, wpos, wbyt⟩ = q := ⟨_, rfl⟩
                rw [hqj] at hq4j HQJ
                have HJJ := Lib.hid hqj
                clear hqj
                have hwp0 : 0 ≤ wpos := hwok.1.1
                have hwp1 : wpos ≤ 255 := hwok.1.2
                have HTJ := Lib.hid (show wpos.tmod 4 = (qj : Int) by rw [Int.tmod_eq_emod_of_nonneg hwp0]; exact HQJ.out)
                have HQ4 := Lib.hid hq4j
                clear hq4j hwok HQJ hwp0 hwp1
                have HV9E := Lib.hid (show (upd fs (wt.take j)).set qj wbyt = upd fs (wt.take (j + 1)) by rw [take_snocD wt j ac0 hj, upd_snoc, HX.out, HJJ.out])
                have HV10E := Lib.hid (show (upd ss (wt.take j)).set qj wbyt = upd ss (wt.take (j + 1)) by rw [take_snocD wt j ac0 hj, upd_snoc, HX.out, HJJ.out])
                have hmin : min j room = j := by omega
                rw [hmin] at V10
                clear hmin HX HJJ
                have hBW := hBWx
                clear hBWx
                go_upto_region 28 with fail
                refine wp_region_any (by kernel_rfl) ?_
                change wpAny _ _ _ _ _ _ _ (World.drew _)
                replace V5 := Lib.hid (V5.out.below ((Below.refl wr.heap.size wr).drew) V5.out.lt)
                replace V8 := Lib.hid (V8.out.below ((Below.refl wr.heap.size wr).drew) V8.out.lt)
                replace V9 := Lib.hid (V9.out.below ((Below.refl wr.heap.size wr).drew) V9.out.lt)
                replace V10 := Lib.hid (V10.out.below ((Below.refl wr.heap.size wr).drew) V10.out.lt)
                replace V17 := Lib.hid (V17.out.below ((Below.refl wr.heap.size wr).drew) V17.out.lt)
                replace DX := Lib.hid (DX.out.below ((Below.refl wr.heap.size wr).drew))
                replace SA := Lib.hid (SA.out.below ((Below.refl wr.heap.size wr).drew))
                replace OW := Lib.hid (OW.out.below ((Below.refl wr.heap.size wr).drew))
                replace BB := Lib.hid (BB.out.trans (Below.mono ((Below.refl wr.heap.size wr).drew) BB.out.size))
                replace hw1 := (Below.cell ((Below.refl wr.heap.size wr).drew) (p := ⟨bw, ow + j * 3 + 1, none⟩) hbw).trans hw1
                replace hw2 := (Below.cell ((Below.refl wr.heap.size wr).drew) (p := ⟨bw, ow + j * 3 + 2, none⟩) hbw).trans hw2
                replace hbw := Nat.lt_of_lt_of_le hbw (Below.size ((Below.refl wr.heap.size wr).drew))
                replace hBW := Nat.le_trans hBW (Below.size ((Below.refl wr.heap.size wr).drew))
                generalize World.drew wr = WA1 at V5 V8 V9 V10 V17 DX SA OW BB hw1 hw2 hbw hBW ⊢
                have A1 := Lib.hid (fun u (hu : Ext WA1 u) => (Below.cell hu (p := ⟨bw, ow + j * 3 + 1, none⟩) hbw).trans hw1)
                have A2 := Lib.hid (fun u (hu : Ext WA1 u) => (Below.cell hu (p := ⟨bw, ow + j * 3 + 2, none⟩) hbw).trans hw2)
                have hCD : ∀ u, Ext WA1 u → Ext WA1 u := fun u hu => hu
                refine region_U (D := Ext WA1) (Ext WA1) [12] (Ext.refl WA1) ?_
                refine anyU_takeD (i := 0) (v := .slice (some ⟨bw, ow, none⟩) wt.length cap) 104 rfl rfl (by kernel_rfl) (by kernel_rfl) (by kernel_rfl) (fun _ _ _ h => h) (by kernel_rfl) (Ext.stable _) hCD (yieldsU_val rfl (fun u hu => by go_simp)) ?_
                refine anyU_takeD (i := 1) (v := .int .i64 (j : Int)) 105 rfl rfl (by kernel_rfl) (by kernel_rfl) (by kernel_rfl) (fun _ _ _ h => h) (by kernel_rfl) (Ext.stable _) hCD (yieldsU_val rfl (fun u hu => by go_simp)) ?_
                refine anyU_takeD (i := 2) (v := .pointer (some ⟨bw, ow + j * 3, none⟩)) 106 rfl rfl (by kernel_rfl) (by kernel_rfl) (by kernel_rfl) (fun _ _ _ h => h) (by kernel_rfl) (Ext.stable _) hCD (yieldsU_val rfl (fun u hu => by go_simp)) ?_
                refine anyU_takeD (i := 3) (v := .pointer (some ⟨bw, ow + j * 3 + 1, none⟩)) 107 rfl rfl (by kernel_rfl) (by kernel_rfl) (by kernel_rfl) (fun _ _ _ h => h) (by kernel_rfl) (Ext.stable _) hCD (yieldsU_val rfl (fun u hu => by go_simp)) ?_
                refine anyU_takeD (i := 4) (v := .int .u8 wpos) 108 rfl rfl (by kernel_rfl) (by kernel_rfl) (by kernel_rfl) (fun _ _ _ h => h) (by kernel_rfl) (Ext.stable _) hCD (yieldsU_val rfl (fun u hu => by have c := A1.out u hu; go_simp)) ?_
                refine anyU_takeD (i := 5) (v := .int .u8 (qj : Int)) 109 rfl rfl (by kernel_rfl) (by kernel_rfl) (by kernel_rfl) (fun _ _ _ h => h) (by kernel_rfl) (Ext.stable _) hCD (yieldsU_val rfl (fun u hu => by have c := HTJ.out; go_simp)) ?_
                simp only [Act.put, List.setIfInBounds_toArray, List.set_cons_succ, List.set_cons_zero]
                refine anyU_takeD (i := 6) (v := .slice (some ⟨bw, ow, none⟩) wt.length cap) 110 rfl rfl (by kernel_rfl) (by kernel_rfl) (by kernel_rfl) (fun _ _ _ h => h) (by kernel_rfl) (Ext.stable _) hCD (yieldsU_val rfl (fun u hu => by go_simp)) ?_
                refine anyU_takeD (i := 7) (v := .int .i64 (j : Int)) 111 rfl rfl (by kernel_rfl) (by kernel_rfl) (by kernel_rfl) (fun _ _ _ h => h) (by kernel_rfl) (Ext.stable _) hCD (yieldsU_val rfl (fun u hu => by go_simp)) ?_
                refine anyU_takeD (i := 8) (v := .pointer (some ⟨bw, ow + j * 3, none⟩)) 112 rfl rfl (by kernel_rfl) (by kernel_rfl) (by kernel_rfl) (fun _ _ _ h => h) (by kernel_rfl) (Ext.stable _) hCD (yieldsU_val rfl (fun u hu => by go_simp)) ?_
                refine anyU_takeD (i := 9) (v := .pointer (some ⟨bw, ow + j * 3 + 2, none⟩)) 113 rfl rfl (by kernel_rfl) (by kernel_rfl) (by kernel_rfl) (fun _ _ _ h => h) (by kernel_rfl) (Ext.stable _) hCD (yieldsU_val rfl (fun u hu => by go_simp)) ?_
                refine anyU_takeD (i := 10) (v := .int .u8 wbyt) 114 rfl rfl (by kernel_rfl) (by kernel_rfl) (by kernel_rfl) (fun _ _ _ h => h) (by kernel_rfl) (Ext.stable _) hCD (yieldsU_val rfl (fun u hu => by have c := A2.out u hu; go_simp)) ?_
                refine anyU_takeD (i := 11) (v := .pointer (some ⟨n8 + 1, qj, none⟩)) 115 rfl rfl (by kernel_rfl) (by kernel_rfl) (by kernel_rfl) (fun _ _ _ h => h) (by kernel_rfl) (Ext.stable _) hCD (yieldsU_val rfl (fun u hu => by have c := HQ4.out; go_simp; intro h; omega)) ?_
                simp only [Act.put, List.setIfInBounds_toArray, List.set_cons_succ, List.set_cons_zero]
                refine anyU_tail 12 [] rfl rfl (by decide) (by kernel_rfl) ?_
                intro WB1 hu2
                simp only [Act.put, List.filterMap_cons, List.filterMap_nil, List.getElem?_cons_succ, List.getElem?_cons_zero]
                replace V5 := Lib.hid (V5.out.below hu2 V5.out.lt)
                replace V8 := Lib.hid (V8.out.below hu2 V8.out.lt)
                replace V9 := Lib.hid (V9.out.below hu2 V9.out.lt)
                replace V10 := Lib.hid (V10.out.below hu2 V10.out.lt)
                replace V17 := Lib.hid (V17.out.below hu2 V17.out.lt)
                replace DX := Lib.hid (DX.out.below hu2)
                replace SA := Lib.hid (SA.out.below hu2)
                replace OW := Lib.hid (OW.out.below hu2)
                replace BB := Lib.hid (BB.out.trans (Below.mono hu2 BB.out.size))
                replace hw1 := A1.out WB1 hu2
                replace hw2 := A2.out WB1 hu2
                replace hbw := Nat.lt_of_lt_of_le hbw (Below.size hu2)
                replace hBW := Nat.le_trans hBW (Below.size hu2)
                clear A1 A2 hu2 hCD
                have hq4j := HQ4.out
                have fq := V9.out.frozen qj
                have lq := V9.out.lt
                have cq : WB1.cell? ⟨n8 + 1, qj, none⟩ = some (.int .u8 ((upd fs (wt.take j)).getD qj 0)) := by rw [V9.out.cell qj]; exact a4_get (upd fs (wt.take j)) qj hq4j
                have X5 := V5.out.other (b' := n8 + 1) qj (.int .u8 wbyt) (by omega)
                have X8 := V8.out.other (b' := n8 + 1) qj (.int .u8 wbyt) (by omega)
                have X9 := V9.out.set qj (.int .u8 wbyt)
                have X10 := V10.out.other (b' := n8 + 1) qj (.int .u8 wbyt) (by omega)
                have X17 := V17.out.other (b' := n8 + 1) qj (.int .u8 wbyt) (by omega)
                have XD := DX.out.set (o := qj) (v := (.int .u8 wbyt)) SX.out.2.2.1
                have XO := OW.out.set (b := n8 + 1) (o := qj) (x := (.int .u8 wbyt)) (by omega)
                have XB := BB.out.setCell (p := ⟨n8 + 1, qj, none⟩) (by show w.heap.size ≤ n8 + 1; omega) (.int .u8 wbyt)
                have XS := SA.out.set (o := qj) (v := (.int .u8 wbyt)) (b := n8 + 1) (fun h a ha => by have := HA.out a ha h; omega)
                have XZ : B ≤ (WB1.setCell ⟨n8 + 1, qj, none⟩ (.int .u8 wbyt)).heap.size := by simp only [World.size_setCell]; exact hBW
                have XL : bw < (WB1.setCell ⟨n8 + 1, qj, none⟩ (.int .u8 wbyt)).heap.size := by simp only [World.size_setCell]; exact hbw
                have hk1 : (WB1.setCell ⟨n8 + 1, qj, none⟩ (.int .u8 wbyt)).cell? ⟨bw, ow + j * 3 + 1, none⟩ = WB1.cell? ⟨bw, ow + j * 3 + 1, none⟩ := World.cell?_of_block (a := ⟨bw, ow + j * 3 + 1, none⟩) (Below.heap_setCell WB1 ⟨n8 + 1, qj, none⟩ (.int .u8 wbyt) bw (by show bw ≠ n8 + 1; omega))
                have hk2 : (WB1.setCell ⟨n8 + 1, qj, none⟩ (.int .u8 wbyt)).cell? ⟨bw, ow + j * 3 + 2, none⟩ = WB1.cell? ⟨bw, ow + j * 3 + 2, none⟩ := World.cell?_of_block (a := ⟨bw, ow + j * 3 + 2, none⟩) (Below.heap_setCell WB1 ⟨n8 + 1, qj, none⟩ (.int .u8 wbyt) bw (by show bw ≠ n8 + 1; omega))
                replace hw1 := hk1.trans hw1
                replace hw2 := hk2.trans hw2
                clear hk1 hk2
                rw [a4_set (by rw [upd_len]; exact HIL.out.1) hq4j, HV9E.out] at X9
                go_upto_region 29 with fail
                generalize WB1.setCell ⟨n8 + 1, qj, none⟩ (.int .u8 wbyt) = WC1 at X5 X8 X9 X10 X17 XD XO XB XS XZ XL hw1 hw2 ⊢
                clear V5 V8 V9 V10 V17 DX OW BB SA hBW hbw cq fq lq hq4j
                have V5 := Lib.hid X5; have V8 := Lib.hid X8; have V9 := Lib.hid X9; have V10 := Lib.hid X10; have V17 := Lib.hid X17; have DX := Lib.hid XD; have OW := Lib.hid XO; have BB := Lib.hid XB; have SA := Lib.hid XS; have hBW := XZ; have hbw := XL
                clear X5 X8 X9 X10 X17 XD XO XB XS XZ XL
                by_cases hr : j < room
                case pos =>
                  go_upto_region 30 with fail
                  refine wp_region_any (by kernel_rfl) ?_
                  change wpAny _ _ _ _ _ _ _ (World.drew _)
                  replace V5 := Lib.hid (V5.out.below ((Below.refl WC1.heap.size WC1).drew) V5.out.lt)
                  replace V8 := Lib.hid (V8.out.below ((Below.refl WC1.heap.size WC1).drew) V8.out.lt)
                  replace V9 := Lib.hid (V9.out.below ((Below.refl WC1.heap.size WC1).drew) V9.out.lt)
                  replace V10 := Lib.hid (V10.out.below ((Below.refl WC1.heap.size WC1).drew) V10.out.lt)
                  replace V17 := Lib.hid (V17.out.below ((Below.refl WC1.heap.size WC1).drew) V17.out.lt)
                  replace DX := Lib.hid (DX.out.below ((Below.refl WC1.heap.size WC1).drew))
                  replace SA := Lib.hid (SA.out.below ((Below.refl WC1.heap.size WC1).drew))
                  replace OW := Lib.hid (OW.out.below ((Below.refl WC1.heap.size WC1).drew))
                  replace BB := Lib.hid (BB.out.trans (Below.mono ((Below.refl WC1.heap.size WC1).drew) BB.out.size))
                  replace hw1 := (Below.cell ((Below.refl WC1.heap.size WC1).drew) (p := ⟨bw, ow + j * 3 + 1, none⟩) hbw).trans hw1
                  replace hw2 := (Below.cell ((Below.refl WC1.heap.size WC1).drew) (p := ⟨bw, ow + j * 3 + 2, none⟩) hbw).trans hw2
                  replace hbw := Nat.lt_of_lt_of_le hbw (Below.size ((Below.refl WC1.heap.size WC1).drew))
                  replace hBW := Nat.le_trans hBW (Below.size ((Below.refl WC1.heap.size WC1).drew))
                  generalize World.drew WC1 = WA2 at V5 V8 V9 V10 V17 DX SA OW BB hw1 hw2 hbw hBW ⊢
                  have A1 := Lib.hid (fun u (hu : Ext WA2 u) => (Below.cell hu (p := ⟨bw, ow + j * 3 + 1, none⟩) hbw).trans hw1)
                  have A2 := Lib.hid (fun u (hu : Ext WA2 u) => (Below.cell hu (p := ⟨bw, ow + j * 3 + 2, none⟩) hbw).trans hw2)
                  have hCD : ∀ u, Ext WA2 u → Ext WA2 u := fun u hu => hu
                  refine region_U (D := Ext WA2) (Ext WA2) [12] (Ext.refl WA2) ?_
                  refine anyU_takeD (i := 0) (v := .slice (some ⟨bw, ow, none⟩) wt.length cap) 119 rfl rfl (by kernel_rfl) (by kernel_rfl) (by kernel_rfl) (fun _ _ _ h => h) (by kernel_rfl) (Ext.stable _) hCD (yieldsU_val rfl (fun u hu => by go_simp)) ?_
                  refine anyU_takeD (i := 1) (v := .int .i64 (j : Int)) 120 rfl rfl (by kernel_rfl) (by kernel_rfl) (by kernel_rfl) (fun _ _ _ h => h) (by kernel_rfl) (Ext.stable _) hCD (yieldsU_val rfl (fun u hu => by go_simp)) ?_
                  refine anyU_takeD (i := 2) (v := .pointer (some ⟨bw, ow + j * 3, none⟩)) 121 rfl rfl (by kernel_rfl) (by kernel_rfl) (by kernel_rfl) (fun _ _ _ h => h) (by kernel_rfl) (Ext.stable _) hCD (yieldsU_val rfl (fun u hu => by go_simp)) ?_
                  refine anyU_takeD (i := 3) (v := .pointer (some ⟨bw, ow + j * 3 + 1, none⟩)) 122 rfl rfl (by kernel_rfl) (by kernel_rfl) (by kernel_rfl) (fun _ _ _ h => h) (by kernel_rfl) (Ext.stable _) hCD (yieldsU_val rfl (fun u hu => by go_simp)) ?_
                  refine anyU_takeD (i := 4) (v := .int .u8 wpos) 123 rfl rfl (by kernel_rfl) (by kernel_rfl) (by kernel_rfl) (fun _ _ _ h => h) (by kernel_rfl) (Ext.stable _) hCD (yieldsU_val rfl (fun u hu => by have c := A1.out u hu; go_simp)) ?_
                  refine anyU_takeD (i := 5) (v := .int .u8 (qj : Int)) 124 rfl rfl (by kernel_rfl) (by kernel_rfl) (by kernel_rfl) (fun _ _ _ h => h) (by kernel_rfl) (Ext.stable _) hCD (yieldsU_val rfl (fun u hu => by have c := HTJ.out; go_simp)) ?_
                  simp only [Act.put, List.setIfInBounds_toArray, List.set_cons_succ, List.set_cons_zero]
                  refine anyU_takeD (i := 6) (v := .slice (some ⟨bw, ow, none⟩) wt.length cap) 125 rfl rfl (by kernel_rfl) (by kernel_rfl) (by kernel_rfl) (fun _ _ _ h => h) (by kernel_rfl) (Ext.stable _) hCD (yieldsU_val rfl (fun u hu => by go_simp)) ?_
                  refine anyU_takeD (i := 7) (v := .int .i64 (j : Int)) 126 rfl rfl (by kernel_rfl) (by kernel_rfl) (by kernel_rfl) (fun _ _ _ h => h) (by kernel_rfl) (Ext.stable _) hCD (yieldsU_val rfl (fun u hu => by go_simp)) ?_
                  refine anyU_takeD (i := 8) (v := .pointer (some ⟨bw, ow + j * 3, none⟩)) 127 rfl rfl (by kernel_rfl) (by kernel_rfl) (by kernel_rfl) (fun _ _ _ h => h) (by kernel_rfl) (Ext.stable _) hCD (yieldsU_val rfl (fun u hu => by go_simp)) ?_
                  refine anyU_takeD (i := 9) (v := .pointer (some ⟨bw, ow + j * 3 + 2, none⟩)) 128 rfl rfl (by kernel_rfl) (by kernel_rfl) (by kernel_rfl) (fun _ _ _ h => h) (by kernel_rfl) (Ext.stable _) hCD (yieldsU_val rfl (fun u hu => by go_simp)) ?_
                  refine anyU_takeD (i := 10) (v := .int .u8 wbyt) 129 rfl rfl (by kernel_rfl) (by kernel_rfl) (by kernel_rfl) (fun _ _ _ h => h) (by kernel_rfl) (Ext.stable _) hCD (yieldsU_val rfl (fun u hu => by have c := A2.out u hu; go_simp)) ?_
                  refine anyU_takeD (i := 11) (v := .pointer (some ⟨n8 + 1 + 1, qj, none⟩)) 130 rfl rfl (by kernel_rfl) (by kernel_rfl) (by kernel_rfl) (fun _ _ _ h => h) (by kernel_rfl) (Ext.stable _) hCD (yieldsU_val rfl (fun u hu => by have c := HQ4.out; go_simp; intro h; omega)) ?_
                  simp only [Act.put, List.setIfInBounds_toArray, List.set_cons_succ, List.set_cons_zero]
                  refine anyU_tail 12 [] rfl rfl (by decide) (by kernel_rfl) ?_
                  intro WB2 hu2
                  simp only [Act.put, List.filterMap_cons, List.filterMap_nil, List.getElem?_cons_succ, List.getElem?_cons_zero]
                  replace V5 := Lib.hid (V5.out.below hu2 V5.out.lt)
                  replace V8 := Lib.hid (V8.out.below hu2 V8.out.lt)
                  replace V9 := Lib.hid (V9.out.below hu2 V9.out.lt)
                  replace V10 := Lib.hid (V10.out.below hu2 V10.out.lt)
                  replace V17 := Lib.hid (V17.out.below hu2 V17.out.lt)
                  replace DX := Lib.hid (DX.out.below hu2)
                  replace SA := Lib.hid (SA.out.below hu2)
                  replace OW := Lib.hid (OW.out.below hu2)
                  replace BB := Lib.hid (BB.out.trans (Below.mono hu2 BB.out.size))
                  replace hw1 := A1.out WB2 hu2
                  replace hw2 := A2.out WB2 hu2
                  replace hbw := Nat.lt_of_lt_of_le hbw (Below.size hu2)
                  replace hBW := Nat.le_trans hBW (Below.size hu2)
                  clear A1 A2 hu2 hCD
                  have hq4j := HQ4.out
                  have fq := V10.out.frozen qj
                  have lq := V10.out.lt
                  have cq : WB2.cell? ⟨n8 + 1 + 1, qj, none⟩ = some (.int .u8 ((upd ss (wt.take j)).getD qj 0)) := by rw [V10.out.cell qj]; exact a4_get (upd ss (wt.take j)) qj hq4j
                  have X5 := V5.out.other (b' := n8 + 1 + 1) qj (.int .u8 wbyt) (by omega)
                  have X8 := V8.out.other (b' := n8 + 1 + 1) qj (.int .u8 wbyt) (by omega)
                  have X9 := V9.out.other (b' := n8 + 1 + 1) qj (.int .u8 wbyt) (by omega)
                  have X10 := V10.out.set qj (.int .u8 wbyt)
                  have X17 := V17.out.other (b' := n8 + 1 + 1) qj (.int .u8 wbyt) (by omega)
                  have XD := DX.out.set (o := qj) (v := (.int .u8 wbyt)) SX.out.2.2.2
                  have XO := OW.out.set (b := n8 + 1 + 1) (o := qj) (x := (.int .u8 wbyt)) (by omega)
                  have XB := BB.out.setCell (p := ⟨n8 + 1 + 1, qj, none⟩) (by show w.heap.size ≤ n8 + 1 + 1; omega) (.int .u8 wbyt)
                  have XS := SA.out.set (o := qj) (v := (.int .u8 wbyt)) (b := n8 + 1 + 1) (fun h a ha => by have := HA.out a ha h; omega)
                  have XZ : B ≤ (WB2.setCell ⟨n8 + 1 + 1, qj, none⟩ (.int .u8 wbyt)).heap.size := by simp only [World.size_setCell]; exact hBW
                  have XL : bw < (WB2.setCell ⟨n8 + 1 + 1, qj, none⟩ (.int .u8 wbyt)).heap.size := by simp only [World.size_setCell]; exact hbw
                  have hk1 : (WB2.setCell ⟨n8 + 1 + 1, qj, none⟩ (.int .u8 wbyt)).cell? ⟨bw, ow + j * 3 + 1, none⟩ = WB2.cell? ⟨bw, ow + j * 3 + 1, none⟩ := World.cell?_of_block (a := ⟨bw, ow + j * 3 + 1, none⟩) (Below.heap_setCell WB2 ⟨n8 + 1 + 1, qj, none⟩ (.int .u8 wbyt) bw (by show bw ≠ n8 + 1 + 1; omega))
                  have hk2 : (WB2.setCell ⟨n8 + 1 + 1, qj, none⟩ (.int .u8 wbyt)).cell? ⟨bw, ow + j * 3 + 2, none⟩ = WB2.cell? ⟨bw, ow + j * 3 + 2, none⟩ := World.cell?_of_block (a := ⟨bw, ow + j * 3 + 2, none⟩) (Below.heap_setCell WB2 ⟨n8 + 1 + 1, qj, none⟩ (.int .u8 wbyt) bw (by show bw ≠ n8 + 1 + 1; omega))
                  replace hw1 := hk1.trans hw1
                  replace hw2 := hk2.trans hw2
                  clear hk1 hk2
                  rw [a4_set (by rw [upd_len]; exact HIL.out.2.1) hq4j, HV10E.out] at X10
                  go_wp2_with fail
                  generalize WB2.setCell ⟨n8 + 1 + 1, qj, none⟩ (.int .u8 wbyt) = WC2 at X5 X8 X9 X10 X17 XD XO XB XS XZ XL hw1 hw2 ⊢
                  clear V5 V8 V9 V10 V17 DX OW BB SA hBW hbw cq fq lq hq4j
                  have V5 := Lib.hid X5; have V8 := Lib.hid X8; have V9 := Lib.hid X9; have V10 := Lib.hid X10; have V17 := Lib.hid X17; have DX := Lib.hid XD; have OW := Lib.hid XO; have BB := Lib.hid XB; have SA := Lib.hid XS; have hBW := XZ; have hbw := XL
                  clear X5 X8 X9 X10 X17 XD XO XB XS XZ XL
                  refine ⟨⟨j + 1, by omega, by omega, by go_num, V5, V8, V9, by rw [show min (j + 1) room = j + 1 by omega]; exact V10, V17, DX, SA, OW, hBW, BB⟩, ?_⟩
                  simp only [intOf]; omega
                case neg =>
                  go_wp2_with fail
                  refine ⟨⟨j + 1, by omega, by omega, by go_num, V5, V8, V9, by rw [show min (j + 1) room = j by omega]; exact V10, V17, DX, SA, OW, hBW, BB⟩, ?_⟩
                  simp only [intOf]; omega
              case neg =>
                obtain rfl : j = wt.length := by omega
                rw [Nat.min_eq_left (by omega)] at V10
                rw [List.take_length] at V9 V10
                have hBW := hBWx
                clear hBWx
                have IX := Lib.hid HSY.out.2
                obtain ⟨f2, hf2⟩ : ∃ l, upd fs wt = l := ⟨_, rfl⟩
                obtain ⟨s2, hs2⟩ : ∃ l, upd ss wt = l := ⟨_, rfl⟩
                rw [hf2] at V9 IX
                rw [hs2] at V10 IX
                clear hf2 hs2 OW
                have OW := Lib.hid (ownA_empty wr B hBW)
                have SV0 := Lib.hid (show SepV x (.slice (some ⟨wr.heap.size, 0, none⟩) 0 0) from fun g hg => by
                  have e : wr.heap.size = g := by simpa [Value.ownBlock] using hg
                  exact DX.out.sep (by omega))
                have hb4 := bel_alloc1 wr (.cells #[] 46)
                have hB3 := Nat.le_trans hBW hb4.size
                replace V5 := Lib.hid (V5.out.below hb4 V5.out.lt)
                replace V8 := Lib.hid (V8.out.below hb4 V8.out.lt)
                replace V9 := Lib.hid (V9.out.below hb4 V9.out.lt)
                replace V10 := Lib.hid (V10.out.below hb4 V10.out.lt)
                replace V17 := Lib.hid (V17.out.below hb4 V17.out.lt)
                replace DX := Lib.hid (DX.out.below hb4)
                replace SA := Lib.hid (SA.out.below hb4)
                replace BB := Lib.hid (BB.out.trans (Below.mono hb4 BB.out.size))
                clear hb4
                go_upto_region 37 with fail
                generalize World.alloc wr _ = WE at V5 V8 V9 V10 V17 DX SA BB OW hB3 ⊢
                generalize wr.heap.size = nb at OW SV0 hBW ⊢
                clear hBW
                have cV170 := V17.out.cell 0
                have cV171 := V17.out.cell 1
                have cV172 := V17.out.cell 2
                have cV173 := V17.out.cell 3
                have lV17 := V17.out.lt
                have f0 := V5.out.frozen 0; have f1 := V5.out.frozen 1; have f2' := V5.out.frozen 2; have f3 := V5.out.frozen 3
                obtain ⟨c0, c1, c2, c3, lb⟩ := blk4_facts V5.out
                have X5 := (((((V5.out).set 0 (.slice x.ps x.ns x.cs)).set 1 (.slice x.pp x.np x.cp)).set 2 (.int .i64 x.left)).set 3 (.bool x.st))
                have X8 := (((((V8.out).other (b' := nV5) 0 (.slice x.ps x.ns x.cs) (by omega)).other (b' := nV5) 1 (.slice x.pp x.np x.cp) (by omega)).other (b' := nV5) 2 (.int .i64 x.left) (by omega)).other (b' := nV5) 3 (.bool x.st) (by omega))
                have X9 := (((((V9.out).other (b' := nV5) 0 (.slice x.ps x.ns x.cs) (by omega)).other (b' := nV5) 1 (.slice x.pp x.np x.cp) (by omega)).other (b' := nV5) 2 (.int .i64 x.left) (by omega)).other (b' := nV5) 3 (.bool x.st) (by omega))
                have X10 := (((((V10.out).other (b' := nV5) 0 (.slice x.ps x.ns x.cs) (by omega)).other (b' := nV5) 1 (.slice x.pp x.np x.cp) (by omega)).other (b' := nV5) 2 (.int .i64 x.left) (by omega)).other (b' := nV5) 3 (.bool x.st) (by omega))
                have XD := (((((DX.out).set (o := 0) (v := (.slice x.ps x.ns x.cs)) SX.out.1).set (o := 1) (v := (.slice x.pp x.np x.cp)) SX.out.1).set (o := 2) (v := (.int .i64 x.left)) SX.out.1).set (o := 3) (v := (.bool x.st)) SX.out.1)
                have XO := (((((OW.out).set (b := nV5) (o := 0) (x := (.slice x.ps x.ns x.cs)) (by omega)).set (b := nV5) (o := 1) (x := (.slice x.pp x.np x.cp)) (by omega)).set (b := nV5) (o := 2) (x := (.int .i64 x.left)) (by omega)).set (b := nV5) (o := 3) (x := (.bool x.st)) (by omega))
                have XB := (((((BB.out).setCell (p := ⟨nV5, 0, none⟩) hw5 (.slice x.ps x.ns x.cs)).setCell (p := ⟨nV5, 1, none⟩) hw5 (.slice x.pp x.np x.cp)).setCell (p := ⟨nV5, 2, none⟩) hw5 (.int .i64 x.left)).setCell (p := ⟨nV5, 3, none⟩) hw5 (.bool x.st))
                have XS := (((((SA.out).set (o := 0) (v := (.slice x.ps x.ns x.cs)) (b := nV5) (fun h a ha => by have := HA.out a ha h; omega)).set (o := 1) (v := (.slice x.pp x.np x.cp)) (b := nV5) (fun h a ha => by have := HA.out a ha h; omega)).set (o := 2) (v := (.int .i64 x.left)) (b := nV5) (fun h a ha => by have := HA.out a ha h; omega)).set (o := 3) (v := (.bool x.st)) (b := nV5) (fun h a ha => by have := HA.out a ha h; omega))
                have XZ : B ≤ ((((WE.setCell ⟨nV5, 0, none⟩ (.slice x.ps x.ns x.cs)).setCell ⟨nV5, 1, none⟩ (.slice x.pp x.np x.cp)).setCell ⟨nV5, 2, none⟩ (.int .i64 x.left)).setCell ⟨nV5, 3, none⟩ (.bool x.st)).heap.size := by simp only [World.size_setCell]; exact hB3
                go_upto_region 38 with fail
                generalize ((((WE.setCell ⟨nV5, 0, none⟩ (.slice x.ps x.ns x.cs)).setCell ⟨nV5, 1, none⟩ (.slice x.pp x.np x.cp)).setCell ⟨nV5, 2, none⟩ (.int .i64 x.left)).setCell ⟨nV5, 3, none⟩ (.bool x.st)) = WF at X5 X8 X9 X10 XD XO XB XS XZ ⊢
                clear V5 V8 V9 V10 V17 DX OW BB SA f0 f1 f2' f3 c0 c1 c2 c3 lb cV170 cV171 cV172 cV173 lV17 hB3
                have V5 := Lib.hid (show Blk WF nV5 x.c 25 from X5)
                have V8 := Lib.hid X8; have V9 := Lib.hid X9; have V10 := Lib.hid X10; have D := Lib.hid XD; have OW := Lib.hid XO; have BB := Lib.hid XB; have SA := Lib.hid XS
                have hBW := XZ
                clear X5 X8 X9 X10 XD XO XB XS XZ
                have QX := Lib.hid IX.out.1
                have NX := Lib.hid (show x.ns = 4 by rw [D.out.lens.1]; exact IX.out.2.1)
                have HH := Lib.hid (inv_holds IX.out)
                have cV50 := V5.out.cell 0
                have cV51 := V5.out.cell 1
                have cV52 := V5.out.cell 2
                have cV53 := V5.out.cell 3
                have lV5 := V5.out.lt
                have c80 : WF.cell? ⟨n8, 0, none⟩ = some (.int .u8 (ls.getD 0 0)) := V8.out.cell 0
                have c81 : WF.cell? ⟨n8, 1, none⟩ = some (.int .u8 (ls.getD 1 0)) := V8.out.cell 1
                have c82 : WF.cell? ⟨n8, 2, none⟩ = some (.int .u8 (ls.getD 2 0)) := V8.out.cell 2
                have c83 : WF.cell? ⟨n8, 3, none⟩ = some (.int .u8 (ls.getD 3 0)) := V8.out.cell 3
                have l8 := V8.out.lt
                go_wp2_with fail
                refine (holds_L x ls ls _ D QX NX.out HH).mono ?_
                rintro e W331 ⟨rfl, hb⟩
                have hsz9 := hb.size
                replace V5 := Lib.hid (V5.out.below hb V5.out.lt)
                replace V8 := Lib.hid (V8.out.below hb V8.out.lt)
                replace V9 := Lib.hid (V9.out.below hb V9.out.lt)
                replace V10 := Lib.hid (V10.out.below hb V10.out.lt)
                replace D := Lib.hid (D.out.below hb)
                replace SA := Lib.hid (SA.out.below hb)
                replace OW := Lib.hid (OW.out.below hb)
                replace BB := Lib.hid (BB.out.trans ((hb).mono BB.out.size))
                clear hb
                clear cV50 cV51 cV52 cV53 lV5
                clear c80 c81 c82 c83 l8
                have hB9 : B ≤ W331.heap.size := Nat.le_trans hBW hsz9
                go_wp2_with fail
                refine ⟨⟨k + 1, x, [], room - wt.length, f2, s2, ls, _, 0, by omega, by go_num, by rw [show ((room - wt.length : Nat) : Int) = (room : Int) - (wt.length : Int) by omega], rfl, OW, IX, Lib.hid (fun a ha => (List.not_mem_nil ha).elim), Nat.zero_le _, by omega, V5, V8, V9, V10, D, SX, SV0, SA, hB9, BB⟩, ?_⟩
                simp only [intOf]; omega
      case neg =>
        obtain rfl : k = sn := by omega
        have HRE := Lib.hid (re_holds IV.out.2.1 IV.out.2.2.2.2.1)
        have HOK := Lib.hid (re_run (run_ok IV.out.1))
        have NX := Lib.hid (show d.re.ns = 4 from (D.out.lens.1).trans IV.out.2.1)
        go_upto_region 40 with fail
        refine wp_region_any (by kernel_rfl) ?_
        change wpAny _ _ _ _ _ _ _ (World.drew _)
        replace V5 := Lib.hid (V5.out.below ((Below.refl wr.heap.size wr).drew) V5.out.lt)
        replace V9 := Lib.hid (V9.out.below ((Below.refl wr.heap.size wr).drew) V9.out.lt)
        replace V10 := Lib.hid (V10.out.below ((Below.refl wr.heap.size wr).drew) V10.out.lt)
        replace D := Lib.hid (D.out.below ((Below.refl wr.heap.size wr).drew))
        replace BB := Lib.hid (BB.out.trans (Below.mono ((Below.refl wr.heap.size wr).drew) BB.out.size))
        generalize World.drew wr = WG at V5 V9 V10 D BB ⊢
        have hCD : ∀ u, Ext WG u → Ext WG u := fun u hu => hu
        refine region_U (D := Ext WG) (Ext WG) [5] (Ext.refl WG) ?_
        refine anyU_takeD (i := 0) (v := .agg d.c) 158 rfl rfl (by kernel_rfl) (by kernel_rfl) (by kernel_rfl) (fun _ _ _ h => h) (by kernel_rfl) (Ext.stable _) hCD (yieldsU_val rfl (fun u hu => by have c := (V5.out.below hu V5.out.lt).cell 0; have c1 := (V5.out.below hu V5.out.lt).cell 1; have c2 := (V5.out.below hu V5.out.lt).cell 2; have c3 := (V5.out.below hu V5.out.lt).cell 3; simp at c c1 c2 c3; go_simp)) ?_
        refine anyU_takeD (i := 1) (v := .agg (dskC d.ps d.ns d.cs none 0 0 (-1) false)) 159 rfl rfl (by kernel_rfl) (by kernel_rfl) (by kernel_rfl) (fun _ _ _ h => h) (by kernel_rfl) (Ext.stable _) hCD (yieldsU_call rfl 17 _ _ rfl #[.agg d.c] (by simp [Act.eval, Act.put]) (fun u => by go_simp) (fun u hu => restart_L d u (Lib.hid (D.out.below hu)))) ?_
        simp only [Act.put, List.setIfInBounds_toArray, List.set_cons_succ, List.set_cons_zero]
        refine anyU_takeD (i := 2) (v := .agg #[.int .u8 (fs.getD 0 0), .int .u8 (fs.getD 1 0), .int .u8 (fs.getD 2 0), .int .u8 (fs.getD 3 0)]) 160 rfl rfl (by kernel_rfl) (by kernel_rfl) (by kernel_rfl) (fun _ _ _ h => h) (by kernel_rfl) (Ext.stable _) hCD (yieldsU_val rfl (fun u hu => by have c0 : u.cell? ⟨n8 + 1, 0, none⟩ = some (.int .u8 (fs.getD 0 0)) := (V9.out.below hu V9.out.lt).cell 0; have c1 : u.cell? ⟨n8 + 1, 1, none⟩ = some (.int .u8 (fs.getD 1 0)) := (V9.out.below hu V9.out.lt).cell 1; have c2 : u.cell? ⟨n8 + 1, 2, none⟩ = some (.int .u8 (fs.getD 2 0)) := (V9.out.below hu V9.out.lt).cell 2; have c3 : u.cell? ⟨n8 + 1, 3, none⟩ = some (.int .u8 (fs.getD 3 0)) := (V9.out.below hu V9.out.lt).cell 3; have lq := (V9.out.below hu V9.out.lt).lt; go_simp)) ?_
        refine anyU_takeD (i := 3) (v := .agg #[.int .u8 (ss.getD 0 0), .int .u8 (ss.getD 1 0), .int .u8 (ss.getD 2 0), .int .u8 (ss.getD 3 0)]) 161 rfl rfl (by kernel_rfl) (by kernel_rfl) (by kernel_rfl) (fun _ _ _ h => h) (by kernel_rfl) (Ext.stable _) hCD (yieldsU_val rfl (fun u hu => by have c0 : u.cell? ⟨n8 + 1 + 1, 0, none⟩ = some (.int .u8 (ss.getD 0 0)) := (V10.out.below hu V10.out.lt).cell 0; have c1 : u.cell? ⟨n8 + 1 + 1, 1, none⟩ = some (.int .u8 (ss.getD 1 0)) := (V10.out.below hu V10.out.lt).cell 1; have c2 : u.cell? ⟨n8 + 1 + 1, 2, none⟩ = some (.int .u8 (ss.getD 2 0)) := (V10.out.below hu V10.out.lt).cell 2; have c3 : u.cell? ⟨n8 + 1 + 1, 3, none⟩ = some (.int .u8 (ss.getD 3 0)) := (V10.out.below hu V10.out.lt).cell 3; have lq := (V10.out.below hu V10.out.lt).lt; go_simp)) ?_
        refine anyU_takeD (i := 4) (v := .bool true) 162 rfl rfl (by kernel_rfl) (by kernel_rfl) (by kernel_rfl) (fun _ _ _ h => h) (by kernel_rfl) (Ext.stable _) hCD (yieldsU_call rfl 28 _ _ rfl #[.agg (dskC d.ps d.ns d.cs none 0 0 (-1) false), .agg #[.int .u8 (fs.getD 0 0), .int .u8 (fs.getD 1 0), .int .u8 (fs.getD 2 0), .int .u8 (fs.getD 3 0)], .agg #[.int .u8 (ss.getD 0 0), .int .u8 (ss.getD 1 0), .int .u8 (ss.getD 2 0), .int .u8 (ss.getD 3 0)]] (by simp [Act.eval, Act.put]) (fun u => by go_simp) (fun u hu => holds_L d.re fs ss u (Lib.hid (D.out.below hu).re) HOK NX.out HRE)) ?_
        simp only [Act.put, List.setIfInBounds_toArray, List.set_cons_succ, List.set_cons_zero]
        refine anyU_tail 5 [] rfl rfl (by decide) (by kernel_rfl) ?_
        intro u2 hu2
        simp only [Act.put, List.filterMap_cons, List.filterMap_nil, List.getElem?_cons_succ, List.getElem?_cons_zero]
        have BZ := Lib.hid (BB.out.trans (Below.mono hu2 BB.out.size))
        go_wp2_with fail
        go_ret
        exact ⟨rfl, BZ.out⟩

namespace diskHistory
theorem readable : ∀ t ∈ Try.f6.params.toList, Try.prog.readableRec t = true ∧ t < Try.prog.types.size := by
  rw [Try.params6]
  intro t ht
  simp only [List.mem_cons, List.not_mem_nil, or_false] at ht
  rcases ht with rfl | rfl
  all_goals exact ⟨by kernel_rfl, by decide +kernel⟩

set_option maxRecDepth 100000 in
theorem lifted (os : Os) (started : os.Started) (H : Type) (enc : TypeId × Value → H) :
    ReturnsInHanded {} Try.checked os 6 .any (Rows.diskHistorySpec.pre6 enc Try.prog Try.f6 Rows.diskHistoryRow.domain false) (Rows.diskHistorySpec.post enc Try.prog Try.f6 false true false false) := by
  refine returnsInHanded_of_change (C := Try.checked) own_knob started (by kernel_rfl) Try.func6
    (ChangeSpec.witness6 (enc := enc) (C := Try.checked) false ⟨#[], #[.slice none 0 0, .int .u8 0], []⟩ 8 (by kernel_rfl) (by kernel_rfl) (by kernel_rfl) (by kernel_rfl)) ?_
  intro W base args ds gs before hval0 hW hcnd _
  have hval : ∀ (j : Nat) t v, Try.f6.params[j]? = some t → args[j]? = some v → Value.okWide Try.prog W .any base t v := hval0
  have hW' := hW
  obtain ⟨p, q, hA0, hV, rfl, hfz, hnd⟩ := hW
  have hA : DataW.TrodAll enc Try.prog W 0 (fun _ => true) true Try.f6.params.toList args.toList ds p := hA0
  rw [Try.params6] at hA hval
  obtain ⟨v0, vs0, d0, ds0, p0, q0, hargs, rfl, rfl, h0, r0⟩ := trodAll_cons hA
  obtain ⟨v1, vs1, d1, ds1, p1, q1, rfl, rfl, rfl, h1, r1⟩ := trodAll_cons r0
  obtain ⟨rfl, rfl, rfl⟩ := trodAll_nil r1
  obtain rfl : args = #[v0, v1] := by cases args; simp_all
  obtain ⟨rfl, rfl⟩ := trodVars_none hV
  obtain ⟨k0, n0, c0, z0, rfl, hk0⟩ := open_acts (hval 0 43 v0 rfl rfl) h0
  obtain ⟨a1, rfl, rfl, rfl, w1⟩ := open_int Try.underlying5 (hval 1 5 v1 rfl rfl) h1
  clear hA0 hval0
  refine (diskHistory_walk k0 n0 c0 z0 a1 W (Lib.hid hk0) (Lib.hid (fun a ha h => hk0.lt h ha)) (bounds_u8 w1).1 (bounds_u8 w1).2).mono fun e W' ⟨he, hb⟩ => ?_
  subst he
  exact ⟨_, rfl, law_post laid_out readable rfl rfl Try.underlying4 hW' rfl rfl rfl hb⟩

theorem over : Rows.diskHistoryRow.holds Try.pinned (OpenSpec.ofChange Rows.diskHistorySpec) :=
  OpenClaim.holds_of_wide 6 Try.f6 rfl rfl rfl rfl rfl rfl rfl ⟨rfl, rfl, rfl, rfl, rfl⟩ rfl rfl rfl rfl rfl (by kernel_rfl) Try.func6 (by kernel_rfl)
    (of_decide_eq_true (by kernel_rfl)) (by unfold Func.isWrapper; first | (rw [if_pos (by decide +kernel)]; kernel_rfl) | (rw [if_neg (by decide +kernel)]; exact ⟨rfl, rfl⟩))
    (fun os started H enc _ => lifted os started H enc)

/-- the statement -/
theorem proved : Rows.DiskHistorySaid := over
end diskHistory
end Go.Proofs.Ytackklbifppfeaa
