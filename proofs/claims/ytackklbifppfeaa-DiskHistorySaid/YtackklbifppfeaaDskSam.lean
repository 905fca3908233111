/- Same: disks with the same contents are the same. -/
import Derived.Test.YtackklbifppfeaaDsk
import Derived.StillTactics
import Derived.Deep.Cut
import Derived.Laws.BytesArg
import Derived.Shelf.Bytes.SlSmallAll
namespace Go.Proofs.Ytackklbifppfeaa
open Go.RowKit
set_option linter.unusedVariables false

def strB (zs : List Int) : ByteArray := strOfNums zs
theorem conv_srcW {w : World} {p : Option Addr} {m c : Nat} {bs : List Int} (h : SrcW w p m c bs) : (convert 35 9 (.slice p m c)).run Try.prog w = .ok (.string (strB bs)) w := by
  rcases h with ⟨rfl, ⟨rfl, h0, rfl⟩ | ⟨b, off, rfl, hb, hc⟩⟩ | ⟨rfl, rfl, rfl, ad, rfl⟩
  · obtain rfl : bs = [] := List.eq_nil_of_length_eq_zero h0
    exact run_convert_bytes_nil w 35 5 Try.underlying35 Try.underlying5 0 0 _ Try.underlying9
  · exact run_convert_bytes_arg w 35 5 Try.underlying35 Try.underlying5 b off bs.length c bs rfl hc _ Try.underlying9
  · exact run_convert_bytes_zero w 35 5 Try.underlying35 Try.underlying5 (some ad) 0 _ Try.underlying9
/-- the same bytes in each row -/
def SameRs (rs ss : List Rw) : Prop := ∀ k, k < rs.length → (rs.getD k rw0).bs = (ss.getD k rw0).bs
def SameWs (rs ss : List Wt) : Prop := ∀ k, k < rs.length → (rs.getD k wt0).pos = (ss.getD k wt0).pos ∧ (rs.getD k wt0).row.bs = (ss.getD k wt0).row.bs

set_option maxRecDepth 100000 in
set_option maxHeartbeats 4000000 in
theorem same_any (ps ps2 : Option Addr) (ns cs cs2 : Nat) (pp pp2 : Option Addr) (np cp cp2 : Nat) (left : Int) (st : Bool) (rs ss : List Rw) (ws us : List Wt) (w : World) (hz : Hid (DskV w ps ns pp np left rs ws)) (hy : Hid (DskV w ps2 ns pp2 np left ss us))
    (hR : Hid (SameRs rs ss)) (hW : Hid (SameWs ws us)) :
    Calls Try.prog 14 #[.agg (dskC ps ns cs pp np cp left st), .agg (dskC ps2 ns cs2 pp2 np cp2 left st)] w fun e w' => e = .returned (.bool true) ∧ Below w.heap.size w w' := by
  have H1 := Lib.hid hz.out.1.1; have H2 := Lib.hid hz.out.2.1.1
  have m1 := hz.out.1.2.1; have m2 := hz.out.2.1.2.1
  have h1 := Lib.hid ((bel_alloc1 w (.cells (dskC ps ns cs pp np cp left st) 25)).alloc (by simp) (.cells (dskC ps2 ns cs2 pp2 np cp2 left st) 25))
  have V0 := Lib.hid ((Blk.new w (dskC ps ns cs pp np cp left st) 25).alloc (.cells (dskC ps2 ns cs2 pp2 np cp2 left st) 25))
  have U0 := Lib.hid (show Blk ((w.alloc (.cells (dskC ps ns cs pp np cp left st) 25)).alloc (.cells (dskC ps2 ns cs2 pp2 np cp2 left st) 25)) (w.heap.size + 1) (dskC ps2 ns cs2 pp2 np cp2 left st) 25 by have := Blk.new (w.alloc (.cells (dskC ps ns cs pp np cp left st) 25)) (dskC ps2 ns cs2 pp2 np cp2 left st) 25; simpa using this)
  have bl : (left != left) = false := by simp
  have bs_ : (st != st) = false := by simp
  go_enter Try.func14, Try.ntmps14
  go_wp2_with fail
  go_loopw [5] (fun i wr => ∃ k : Nat, k ≤ ns ∧ i = .int .i64 k ∧ Hid (Below w.heap.size w wr) ∧ Hid (Blk wr w.heap.size (dskC ps ns cs pp np cp left st) 25) ∧ Hid (Blk wr (w.heap.size + 1) (dskC ps2 ns cs2 pp2 np cp2 left st) 25)) (fun i _ => ns - (intOf i).toNat)
  case atStart => exact ⟨0, by omega, rfl, h1, V0, U0⟩
  case round =>
    obtain ⟨k, hk, rfl, HB, VR, UR⟩ := hrel
    obtain ⟨c0, c1, c2, c3, lb⟩ := blk4_facts VR.out
    obtain ⟨d0, d1, d2, d3, ld⟩ := blk4_facts UR.out
    by_cases hlt : k < ns
    · obtain ⟨b', off, hp, hb', hcell, hrw⟩ := (hz.out.1.below HB.out).at hlt
      subst hp
      obtain ⟨b'', off2, hp, hb'', hcell2, hrw2⟩ := (hy.out.1.below HB.out).at hlt
      subst hp
      have hbs := hR.out k (by rw [← H1.out]; exact hlt)
      obtain ⟨⟨pr, mr, cr, br⟩, hx⟩ : ∃ x, rs.getD k rw0 = x := ⟨_, rfl⟩
      obtain ⟨⟨pt, mt, ct, bt⟩, hx2⟩ : ∃ x, ss.getD k rw0 = x := ⟨_, rfl⟩
      rw [hx] at hcell hrw hbs
      rw [hx2] at hcell2 hrw2 hbs
      dsimp only [Rw.v] at hcell hcell2 hbs
      have hs1 := Lib.hid hrw.1; have hs2 := Lib.hid hrw2.1
      dsimp only at hs1 hs2
      obtain ⟨S, hS⟩ : ∃ S, strB br = S := ⟨_, rfl⟩
      have HS := Lib.hid hS
      have HS2 := Lib.hid (show strB bt = S by rw [← hbs]; exact hS)
      clear hx hx2 hrw hrw2 hS hbs
      go_upto_region 6 with fail
      refine wp_region_still_lit (by kernel_rfl) (by kernel_rfl) ?_
      generalize hWD : ({ wr with drawn := wr.drawn + 1 } : World) = W0
      have E0 := Lib.hid (show Below w.heap.size w W0 by rw [← hWD]; exact HB.out.drew)
      have b1 := Lib.hid (show Blk W0 w.heap.size (dskC (some ⟨b', off, none⟩) ns cs pp np cp left st) 25 by rw [← hWD]; exact VR.out)
      have b2 := Lib.hid (show Blk W0 (w.heap.size + 1) (dskC (some ⟨b'', off2, none⟩) ns cs2 pp2 np cp2 left st) 25 by rw [← hWD]; exact UR.out)
      have K1 : (convert 35 9 (.slice pr mr cr)).run Try.prog W0 = .ok (.string S) W0 := by rw [← HS.out, ← hWD]; exact conv_srcW hs1.out
      have K2 : (convert 35 9 (.slice pt mt ct)).run Try.prog W0 = .ok (.string S) W0 := by rw [← HS2.out, ← hWD]; exact conv_srcW hs2.out
      have x1 : W0.cell? ⟨b', off + k, none⟩ = some (.slice pr mr cr) := by rw [← hWD]; exact hcell
      have x2 : W0.cell? ⟨b'', off2 + k, none⟩ = some (.slice pt mt ct) := by rw [← hWD]; exact hcell2
      obtain ⟨c0, c1, c2, c3, lb⟩ := blk4_facts b1.out
      obtain ⟨d0, d1, d2, d3, ld⟩ := blk4_facts b2.out
      have y1 : b' < W0.heap.size := by rw [← hWD]; exact hb'
      have y2 : b'' < W0.heap.size := by rw [← hWD]; exact hb''
      clear hWD hcell hcell2 
      repeat still_step
      refine wpStill_nil ?_
      clear x1 x2  K1 K2
      go_wp2_with fail
      go_roundw
      case rel => exact ⟨k + 1, by omega, by go_num, E0, b1, b2⟩
      case measure => simp [intOf]; omega
    · go_wp2_with fail
      clear c0 c1 c2 c3 d0 d1 d2 d3 lb ld
      generalize hWg : wr = wg at *
      clear hWg
      go_loopw [6] (fun i wr => ∃ k : Nat, k ≤ np ∧ i = .int .i64 k ∧ Hid (Below w.heap.size w wr) ∧ Hid (Blk wr w.heap.size (dskC ps ns cs pp np cp left st) 25) ∧ Hid (Blk wr (w.heap.size + 1) (dskC ps2 ns cs2 pp2 np cp2 left st) 25)) (fun i _ => np - (intOf i).toNat)
      case atStart => exact ⟨0, by omega, rfl, HB, VR, UR⟩
      case round =>
        clear HB VR UR
        obtain ⟨k, hk, rfl, HB, VR, UR⟩ := hrel
        obtain ⟨c0, c1, c2, c3, lb⟩ := blk4_facts VR.out
        obtain ⟨d0, d1, d2, d3, ld⟩ := blk4_facts UR.out
        by_cases hlt : k < np
        · obtain ⟨b', off, hp, hb', hcell, hcell3, hrw⟩ := (hz.out.2.1.below HB.out).at hlt
          subst hp
          obtain ⟨b'', off2, hp, hb'', hcell2, hcell4, hrw2⟩ := (hy.out.2.1.below HB.out).at hlt
          subst hp
          have hbs := hW.out k (by rw [← H2.out]; exact hlt)
          obtain ⟨⟨at_, pr, mr, cr, br⟩, hx⟩ : ∃ x, ws.getD k wt0 = x := ⟨_, rfl⟩
          obtain ⟨⟨at2, pt, mt, ct, bt⟩, hx2⟩ : ∃ x, us.getD k wt0 = x := ⟨_, rfl⟩
          rw [hx] at hcell hcell3 hrw hbs
          rw [hx2] at hcell2 hcell4 hrw2 hbs
          dsimp only [Rw.v] at hcell hcell2 hcell3 hcell4 hbs
          obtain ⟨hat, hbs⟩ := hbs
          subst hat
          have hs1 := Lib.hid hrw.2.1; have hs2 := Lib.hid hrw2.2.1
          dsimp only at hs1 hs2
          obtain ⟨S, hS⟩ : ∃ S, strB br = S := ⟨_, rfl⟩
          have HS := Lib.hid hS
          have HS2 := Lib.hid (show strB bt = S by rw [← hbs]; exact hS)
          clear hx hx2 hrw hrw2 hS hbs
          go_upto_region 11 with fail
          refine wp_region_still_lit (by kernel_rfl) (by kernel_rfl) ?_
          generalize hWD : ({ wr with drawn := wr.drawn + 1 } : World) = W0
          have E0 := Lib.hid (show Below w.heap.size w W0 by rw [← hWD]; exact HB.out.drew)
          have b1 := Lib.hid (show Blk W0 w.heap.size (dskC ps ns cs (some ⟨b', off, none⟩) np cp left st) 25 by rw [← hWD]; exact VR.out)
          have b2 := Lib.hid (show Blk W0 (w.heap.size + 1) (dskC ps2 ns cs2 (some ⟨b'', off2, none⟩) np cp2 left st) 25 by rw [← hWD]; exact UR.out)
          have K1 : (convert 35 9 (.slice pr mr cr)).run Try.prog W0 = .ok (.string S) W0 := by rw [← HS.out, ← hWD]; exact conv_srcW hs1.out
          have K2 : (convert 35 9 (.slice pt mt ct)).run Try.prog W0 = .ok (.string S) W0 := by rw [← HS2.out, ← hWD]; exact conv_srcW hs2.out
          have x1 : W0.cell? ⟨b', off + k * 2, none⟩ = some (.int .i64 at_) := by rw [← hWD]; exact hcell
          have x2 : W0.cell? ⟨b'', off2 + k * 2, none⟩ = some (.int .i64 at_) := by rw [← hWD]; exact hcell2
          have x3 : W0.cell? ⟨b', off + k * 2 + 1, none⟩ = some (.slice pr mr cr) := by rw [← hWD]; exact hcell3
          have x4 : W0.cell? ⟨b'', off2 + k * 2 + 1, none⟩ = some (.slice pt mt ct) := by rw [← hWD]; exact hcell4
          obtain ⟨c0, c1, c2, c3, lb⟩ := blk4_facts b1.out
          obtain ⟨d0, d1, d2, d3, ld⟩ := blk4_facts b2.out
          have y1 : b' < W0.heap.size := by rw [← hWD]; exact hb'
          have y2 : b'' < W0.heap.size := by rw [← hWD]; exact hb''
          clear hWD hcell hcell2 hcell3 hcell4
          repeat still_step
          refine wpStill_nil ?_
          clear x1 x2 x3 x4 K1 K2
          go_wp2_with fail
          go_roundw
          case rel => exact ⟨k + 1, by omega, by go_num, E0, b1, b2⟩
          case measure => simp [intOf]; omega
        · go_wp2_with fail
          go_ret
          exact ⟨rfl, HB.out⟩
end Go.Proofs.Ytackklbifppfeaa
