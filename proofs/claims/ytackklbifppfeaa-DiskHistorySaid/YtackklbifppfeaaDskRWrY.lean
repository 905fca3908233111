/- The reference's Write, where it writes. -/
import Derived.Test.YtackklbifppfeaaDskRWrN
import Derived.Test.YtackklbifppfeaaDskWrY
namespace Go.Proofs.Ytackklbifppfeaa
open Go.RowKit
set_option linter.unusedVariables false
set_option linter.unusedSimpArgs false

theorem own8_at {w : World} {B : Nat} {v : Value} {zs : List Int} (h : Own8 w B v zs) (h0 : 0 < zs.length) : ∃ b cap, v = .slice (some ⟨b, 0, none⟩) zs.length cap ∧ BytesAt w b 0 zs ∧ B ≤ b ∧ b < w.heap.size ∧ zs.length ≤ cap ∧ cap ≤ 9223372036854775807 := by
  have h' := h
  obtain ⟨p, cap, hv, hs, h1, h2, h3⟩ := own8_src h
  obtain ⟨_, ⟨_, h4, _⟩ | ⟨b, off, rfl, hb, hc⟩⟩ := hs
  · omega
  · obtain ⟨_, ⟨e, _⟩ | ⟨g, cap', cur, e, hBg, hg, _⟩⟩ := h'
    · rw [hv] at e; cases e
    · rw [hv] at e; simp at e
      obtain ⟨⟨rfl, rfl⟩, rfl⟩ := e
      exact ⟨b, cap, hv, hc, hBg, hb, h1, by unfold maxLen at h2; omega⟩
theorem BytesAt.set {w : World} {b b' o o' : Nat} {v : Value} {zs : List Int} (h : BytesAt w b o zs) (hne : b ≠ b') : BytesAt (w.setCell ⟨b', o', none⟩ v) b o zs := fun j hj =>
  (World.cell?_of_block (a := ⟨b, o + j, none⟩) (Below.heap_setCell w ⟨b', o', none⟩ v b hne)).trans (h j hj)
theorem srcV_one (w : World) (c : Int) : SrcV (w.alloc (.cells #[.int .u8 c] 5)) (some ⟨w.heap.size, 0, none⟩) 1 1 [c] := by
  refine ⟨rfl, .inr ⟨w.heap.size, 0, rfl, by simp, fun j hj => ?_⟩⟩
  obtain rfl : j = 0 := by simpa using hj
  simp
theorem ownP_empty (w : World) : OwnP (w.alloc (.cells #[] 54)) w.heap.size (.slice (some ⟨w.heap.size, 0, none⟩) 0 0) [] :=
  World.ownsRow_made w #[] 0 (Nat.le_refl _) (by unfold maxLen; omega) rfl
theorem bel_grownP {w0 w w' : World} {B : Nat} {v : Value} {l : List Wt} (k : Below B w0 w) (ho : OwnP w B v l) (hg : w.grownBy w' v.ownBlock) (hB : B ≤ w.heap.size) : Below B w0 w' :=
  k.trans ⟨hg.os, hg.tape, hg.output, hg.size, fun i hi => hg.block i (by omega) (by intro e; have := (World.ownsRow.lt ho) i e.symm; omega)⟩
def lenOf : Value → Nat
  | .slice _ n _ => n
  | _ => 0
theorem pad_more (bs : List Int) (n : Nat) (h : bs.length ≤ n) : bs ++ List.replicate (n - bs.length) 0 ++ [(0 : Int)] = bs ++ List.replicate (n + 1 - bs.length) 0 := by
  rw [List.append_assoc, ← List.replicate_succ', show n - bs.length + 1 = n + 1 - bs.length by omega]

set_option maxRecDepth 100000 in
set_option maxHeartbeats 2000000 in
theorem rwrite_yes (k0 : Nat) (pb : Option Addr) (mb cb : Nat) (ps : Option Addr) (ns cs : Nat) (pp : Option Addr) (np cp : Nat) (left : Int) (st : Bool) (rs : List Rw) (ws : List Wt) (w : World) (hz : Hid (DskV w ps ns pp np left rs ws)) (hst : st = false) (hq : Hid (chkB left rs ws = true)) (hk0 : k0 < ns) (hb1 : mb ≤ 128) (hb2 : np < 4096) (bs : List Int) (hbs : Hid (SrcW w pb mb cb bs)) (hby : Hid (∀ z ∈ bs, 0 ≤ z ∧ z ≤ 255)) (hk1 : ns ≤ 4096)
    (hp1 : np ≤ cp) (hp2 : cp ≤ 9223372036854775807) (hp3 : Hid (pp = none → np = 0 ∧ cp = 0)) :
    Calls Try.prog 20 #[.agg (dskC ps ns cs pp np cp left st), .int .i64 k0, .slice pb mb cb] w fun e w' => IsWr w.heap.size ps ns cs np left st k0 ws bs w' e ∧ Below w.heap.size w w' := by
  subst hst
  have V0 := Lib.hid (Blk.new w (dskC ps ns cs pp np cp left false) 25)
  have h1 := Lib.hid (bel_alloc1 w (.cells (dskC ps ns cs pp np cp left false) 25))
  have VW := Lib.hid (V0.out.alloc (.cells #[.slice none 0 0, .slice none 0 0, .int .i64 0, .bool false] 25))
  have ZW := Lib.hid (Blk.new (w.alloc (.cells (dskC ps ns cs pp np cp left false) 25)) #[.slice none 0 0, .slice none 0 0, .int .i64 0, .bool false] 25)
  have h2 := Lib.hid (h1.out.alloc h1.out.size (.cells #[.slice none 0 0, .slice none 0 0, .int .i64 0, .bool false] 25))
  have H0 := Lib.hid (hz.out.below h2.out)
  have m1 := hz.out.1.2.1
  have m2 := hz.out.2.1.2.1
  obtain ⟨N, hN⟩ : ∃ N, (w.alloc (.cells (dskC ps ns cs pp np cp left false) 25)).heap.size = N := ⟨_, rfl⟩
  have hNe : N = w.heap.size + 1 := by rw [← hN]; simp
  rw [hN] at ZW
  subst hNe
  clear hN
  have HC := Lib.hid (chk_yes hq.out)
  have HN := Lib.hid hz.out.2.1.1
  have HML := Lib.hid hbs.out.len
  have HBL := Lib.hid (show bs.length ≤ 128 by have := hbs.out.len; omega)
  go_enter Try.func20, Try.ntmps20
  go_wp2_with fail
  refine (rcheck_any ps ns cs pp np cp left false rs ws _ H0).mono ?_; rintro e w1 ⟨rfl, hb⟩
  have V1 := Lib.hid (VW.out.below hb VW.out.lt)
  have Z1 := Lib.hid (ZW.out.below hb ZW.out.lt)
  have B1 := Lib.hid (h2.out.trans (hb.mono h2.out.size)); clear hb
  obtain ⟨c0, c1, c2, c3, lb⟩ := blk4_facts V1.out
  obtain ⟨d0, d1, d2, d3, ld⟩ := blk4_facts Z1.out
  rw [HC.out]
  go_wp2_with (at_builtin; refine app8w rfl (.tmp 37) (.tmp 38) rfl w1.heap.size (.slice (some ⟨w1.heap.size, 0, none⟩) 0 0) [] rfl ?e1 pb mb cb bs rfl ?e2 ?e3 ?e4 ?_)
  case e1 => exact own8_empty w1
  case e2 => exact hbs.out.below (B1.out.trans ((bel_alloc1 w1 _).mono (Nat.le_of_lt lb)))
  case e3 => have := HBL.out; simp; omega
  case e4 => simp
  intro v2 w2 h2' g2
  have O2 := Lib.hid h2'
  have K2 := Lib.hid (bel_grown8 (bel_alloc1 w1 _) (own8_empty w1) g2 (by simp))
  clear h2' g2
  obtain ⟨p2, cap2, hv2, _, _, _, _⟩ := own8_src O2.out
  rw [← HML.out] at hv2
  subst hv2
  clear c0 c1 c2 c3 d0 d1 d2 d3
  go_wp2_with fail
  go_loopw [8] (fun v wr => ∃ (n : Nat) (p : Option Addr) (cap : Nat), mb ≤ n ∧ n ≤ 128 ∧ v = .slice p n cap ∧ Hid (Own8 wr w1.heap.size (.slice p n cap) (bs ++ List.replicate (n - bs.length) 0)) ∧ Hid (Below w1.heap.size w1 wr)) (fun v _ => 128 - (lenOf v))
  case atStart => exact ⟨mb, p2, cap2, Nat.le_refl _, hb1, rfl, Lib.hid (by rw [show mb - bs.length = 0 by have := HML.out; omega]; simpa using O2.out), K2⟩
  case round =>
    obtain ⟨n, p, cap, hn1, hn2, rfl, HO, HB⟩ := hrel
    have hsz := HB.out.size
    have HL := Lib.hid (show (bs ++ List.replicate (n - bs.length) 0).length = n by have := HML.out; rw [List.length_append, List.length_replicate]; omega)
    by_cases hlt : n < 128
    · go_wp2_with (at_builtin; refine app8 rfl (.tmp 43) (.tmp 44) rfl w1.heap.size (.slice p n cap) (bs ++ List.replicate (n - bs.length) 0) rfl ?e1 (some ⟨wr.heap.size, 0, none⟩) 1 1 [0] rfl ?e2 ?e3 ?e4 ?_)
      case e1 => exact own8_alloc HO.out _
      case e2 => exact srcV_one _ _
      case e3 => rw [HL.out]; simp; omega
      case e4 => simp; omega
      intro v3 w3 h3 g3
      have O3 := Lib.hid (show Own8 w3 w1.heap.size v3 (bs ++ List.replicate (n + 1 - bs.length) 0) by rw [← pad_more bs n (by have := HML.out; omega), List.append_assoc]; exact h3)
      have K3 := Lib.hid (bel_grown8 (HB.out.alloc hsz _) (own8_alloc HO.out _) g3 (by simp; omega))
      clear h3 g3
      obtain ⟨p3, cap3, hv3, _, _, _, _⟩ := own8_src O3.out
      rw [show (bs ++ List.replicate (n + 1 - bs.length) (0 : Int)).length = n + 1 by have := HML.out; rw [List.length_append, List.length_replicate]; omega] at hv3
      subst hv3
      go_wp2_with fail
      go_roundw
      case rel => exact ⟨n + 1, p3, cap3, by omega, by omega, rfl, O3, K3⟩
      case measure => simp [lenOf]; omega
    · obtain rfl : n = 128 := by omega
      obtain ⟨b, cap', hv, hby8, hBb, hblt, hcap1, hcap2⟩ := own8_at HO.out (by rw [HL.out]; omega)
      rw [HL.out] at hv hcap1
      simp at hv
      obtain ⟨rfl, rfl⟩ := hv
      have R3 := Lib.hid (show BytesAt wr b 0 (padR bs) from hby8)
      clear hby8 HO HL
      have V3 := Lib.hid (V1.out.below HB.out lb)
      have Z3 := Lib.hid (Z1.out.below HB.out ld)
      have B3 := Lib.hid (B1.out.trans (HB.out.mono (Nat.le_of_lt lb)))
      obtain ⟨c0, c1, c2, c3, lb3⟩ := blk4_facts V3.out
      obtain ⟨d0, d1, d2, d3, ld3⟩ := blk4_facts Z3.out
      have D3 := Lib.hid (hz.out.2.1.below B3.out)
      go_wp2_with (at_builtin; refine appPs rfl (.tmp 46) (.tmp 48) rfl wr.heap.size (.slice (some ⟨wr.heap.size, 0, none⟩) 0 0) [] rfl ?f1 pp np cp ws rfl ?f2 ?f3 ?f4 ?f5 ?_)
      case f1 => exact ownP_empty wr
      case f2 => exact D3.out.below (bel_alloc1 wr _)
      case f3 => exact hp3.out
      case f4 => simp; omega
      case f5 => simp
      intro v4 w4 h4 g4
      have O4 := Lib.hid (show OwnP w4 wr.heap.size v4 ws from h4)
      have K4 := Lib.hid (bel_grownP (bel_alloc1 wr _) (ownP_empty wr) g4 (by simp))
      have s4 := K4.out.size
      clear h4 g4
      have d4 := hz.out.2.1.below (B3.out.trans ((K4.out.mono (Nat.le_of_lt lb3)) : Below w.heap.size wr w4))
      have HV := Lib.hid d4.1
      obtain ⟨q4, cq4, hq4, hq4'⟩ : ∃ q cq, v4 = .slice q np cq ∧ True := by
        obtain ⟨h1, ⟨h2, h3⟩ | ⟨g, cap, cur, h2, _⟩⟩ := O4.out
        · exact ⟨none, 0, by rw [h2, HN.out, h3], trivial⟩
        · exact ⟨_, _, by rw [h2, HN.out], trivial⟩
      subst hq4
      clear hq4' d4
      go_wp2_with (at_builtin; refine appP rfl (.tmp 49) (.tmp 53) rfl wr.heap.size (.slice q4 np cq4) ws rfl ?f6 w4.heap.size ⟨k0, ⟨some ⟨b, 0, none⟩, 128, cap, padR bs⟩⟩ rfl ?f7 ?f8 ?f9 ?_)
      case f6 => exact O4.out.below (bel_alloc1 w4 _)
      case f7 => exact Blk.new _ _ _
      case f8 => have := HN.out; omega
      case f9 => simp; omega
      intro v5 w5 h5 g5
      have K5 := bel_grownP (K4.out.alloc s4 (.cells (cellsP ⟨k0, ⟨some ⟨b, 0, none⟩, 128, cap, padR bs⟩⟩).toArray 54)) (O4.out.below (bel_alloc1 w4 _)) g5 (by simp; omega)
      have V5 := Lib.hid (V3.out.below K5 V3.out.lt)
      have Z5 := Lib.hid (Z3.out.below K5 Z3.out.lt)
      have R5 := Lib.hid (R3.out.below K5 hblt)
      have B5 := Lib.hid (B3.out.trans (K5.mono (Nat.le_of_lt lb3)))
      have s5 : b < w5.heap.size := Nat.lt_of_lt_of_le hblt K5.size
      have O5 := Lib.hid h5
      obtain ⟨g, cap5, hv, _, _, hg, _, _⟩ := h5.slice (by simp)
      rw [List.length_append, List.length_singleton, ← HN.out] at hv
      subst hv
      clear h5 g5 K5 c0 c1 c2 c3 d0 d1 d2 d3
      obtain ⟨c0, c1, c2, c3, lb5⟩ := blk4_facts V5.out
      obtain ⟨d0, d1, d2, d3, ld5⟩ := blk4_facts Z5.out
      have f0 := Z5.out.frozen 0; have f1 := Z5.out.frozen 1; have f2 := Z5.out.frozen 2; have f3 := Z5.out.frozen 3
      have g1 := V5.out.frozen 1
      have hbb : w.heap.size + 1 < b := Nat.lt_of_lt_of_le ld hBb
      have hbw : w.heap.size + 1 < wr.heap.size := by omega
      go_wp2_with fail
      refine bodyPost_ret (v := .tuple #[.agg (dskC ps ns cs (some ⟨g, 0, none⟩) (np + 1) cap5 left false), .int .i64 0]) ?_ rfl ⟨?_, ?_⟩
      · rw [results_cell_tmp rfl]; go_simp
      · refine isWr HN.out hb2 (by omega) HBL.out hcap1 hcap2 (B := wr.heap.size) (b := b) ?_ (fun x hx => (hz.out.2.1.2.2.1 x hx).below ?_) hby.out ?_ ?_ ?_ ?_
        · (iterate 5 (refine OwnP.set ?_ (by omega))); exact O5.out
        · (iterate 5 (refine Below.setCell ?_ (by simp) _)); exact B5.out
        · (iterate 5 (refine BytesAt.set ?_ (by omega))); exact R5.out
        · simp; exact s5
        · omega
        · omega
      · (iterate 5 (refine Below.setCell ?_ (by simp) _)); exact B5.out
end Go.Proofs.Ytackklbifppfeaa
