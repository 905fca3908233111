/- disk.Check and the reference's Check return the same. -/
import Derived.Test.YtackklbifppfeaaDsk
namespace Go.Proofs.Ytackklbifppfeaa
open Go.RowKit
set_option linter.unusedVariables false

theorem sector_q (k : Int) (ps : Option Addr) (ns cs : Nat) (pp : Option Addr) (np cp : Nat) (left : Int) (st : Bool) (rs : List Rw) (ws : List Wt) (w : World) (hz : Hid (DskV w ps ns pp np left rs ws)) (q : Bool) (hq : Hid (decide (0 ≤ k ∧ k < ns) = q)) :
    Calls Try.prog 29 #[.agg (dskC ps ns cs pp np cp left st), .int .i64 k] w fun e w' => e = .returned (.bool q) ∧ Below w.heap.size w w' := by
  have HB := Lib.hid (bel_alloc1 w (.cells (dskC ps ns cs pp np cp left st) 25))
  have hm := hz.out.1.2.1
  by_cases h1 : 0 ≤ k
  · by_cases h2 : k < ns
    · have HE : Hid (q = true) := Lib.hid (by rw [← hq.out]; simp; omega)
      clear hz
      go_enter Try.func29, Try.ntmps29
      go_wp2_with fail
      go_ret
      exact ⟨ret_bool HE.out.symm, HB.out⟩
    · have HE : Hid (q = false) := Lib.hid (by rw [← hq.out]; simp; omega)
      clear hz
      go_enter Try.func29, Try.ntmps29
      go_wp2_with fail
      go_ret
      exact ⟨ret_bool HE.out.symm, HB.out⟩
  · have HE : Hid (q = false) := Lib.hid (by rw [← hq.out]; simp; omega)
    clear hz
    go_enter Try.func29, Try.ntmps29
    go_wp2_with fail
    go_ret
    exact ⟨ret_bool HE.out.symm, HB.out⟩

set_option maxRecDepth 100000 in
set_option maxHeartbeats 2000000 in
theorem check_any (ps : Option Addr) (ns cs : Nat) (pp : Option Addr) (np cp : Nat) (left : Int) (st : Bool) (rs : List Rw) (ws : List Wt) (w : World) (hz : Hid (DskV w ps ns pp np left rs ws)) :
    Calls Try.prog 15 #[.agg (dskC ps ns cs pp np cp left st)] w fun e w' => e = .returned (.int .i64 (chkE left rs ws)) ∧ Below w.heap.size w w' := by
  have H1 := Lib.hid hz.out.1.1; have H2 := Lib.hid hz.out.2.1.1
  have m1 := hz.out.1.2.1; have m2 := hz.out.2.1.2.1; have m3 := hz.out.2.2.1; have m4 := hz.out.2.2.2
  have V0 := Lib.hid (Blk.new w (dskC ps ns cs pp np cp left st) 25)
  have h1 := Lib.hid (bel_alloc1 w (.cells (dskC ps ns cs pp np cp left st) 25))
  cases hl : numsB ns np left with
  | false =>
    have HE : Hid (chkE left rs ws = 40) := Lib.hid (by unfold chkE chkB; rw [← H1.out, ← H2.out, hl]; rfl)
    have HL := Lib.hid hl; clear hl
    by_cases a1 : 1 ≤ ns
    · by_cases a2 : ns ≤ 4096
      · by_cases a3 : np ≤ 4096
        · by_cases a4 : -1 ≤ left
          · have a5 : 65536 < left := by
              apply Classical.byContradiction; intro hh
              have := HL.out
              have h2 : numsB ns np left = true := by unfold numsB; simp; omega
              rw [h2] at this; cases this
            go_enter Try.func15, Try.ntmps15
            go_wp2_with fail
            go_ret
            exact ⟨ret_int HE.out.symm, h1.out⟩
          · go_enter Try.func15, Try.ntmps15
            go_wp2_with fail
            go_ret
            exact ⟨ret_int HE.out.symm, h1.out⟩
        · go_enter Try.func15, Try.ntmps15
          go_wp2_with fail
          go_ret
          exact ⟨ret_int HE.out.symm, h1.out⟩
      · go_enter Try.func15, Try.ntmps15
        go_wp2_with fail
        go_ret
        exact ⟨ret_int HE.out.symm, h1.out⟩
    · go_enter Try.func15, Try.ntmps15
      go_wp2_with fail
      go_ret
      exact ⟨ret_int HE.out.symm, h1.out⟩
  | true =>
  obtain ⟨a1, a2, a3, a4, a5⟩ := nums_t hl
  have HL := Lib.hid hl; clear hl
  go_enter Try.func15, Try.ntmps15
  go_wp2_with fail
  go_loop [36] (fun i => ∃ k : Nat, k ≤ ns ∧ i = .int .i64 k ∧ Hid (∀ j, j < k → rowB (rs.getD j rw0) = true)) (fun i => ns - (intOf i).toNat)
  case atStart => exact ⟨0, by omega, rfl, Lib.hid fun j hj => by omega⟩
  case round =>
    obtain ⟨k, hk, rfl, hv⟩ := hrel
    by_cases hlt : k < ns
    · obtain ⟨b', off, hp, hb', hcell, hrw⟩ := (hz.out.1.below h1.out).at hlt
      subst hp
      obtain ⟨⟨pr, mr, cr, br⟩, hx⟩ : ∃ x, rs.getD k rw0 = x := ⟨_, rfl⟩
      rw [hx] at hcell hrw
      dsimp only [Rw.v] at hcell
      have hmr := hrw.2.2.1
      dsimp only at hmr
      have HX := Lib.hid hx; clear hx hrw
      by_cases hq : mr = 128
      · subst hq
        have hv' := Lib.hid (upto hv.out (show rowB (rs.getD k rw0) = true by rw [HX.out]; rfl))
        go_wp2_with fail
        go_round
        case rel => exact ⟨k + 1, by omega, by go_num, hv'⟩
        case measure => simp [intOf]; omega
      · have HE : Hid (chkE left rs ws = 40) := Lib.hid (by unfold chkE chkB; rw [all_f (zs := rs) (q := rowB) (d := rw0) (k := k) (by rw [← H1.out]; exact hlt) (by rw [HX.out]; simp [rowB, hq])]; simp)
        have hq' : ((mr : Int) != 128) = true := by simp; omega
        go_wp2_with fail
        go_ret
        exact ⟨ret_int HE.out.symm, h1.out⟩
    · have HA : Hid (chkE left rs ws = if ws.all (wtB ns) then 0 else 40) := Lib.hid (by
        unfold chkE chkB
        rw [← H1.out, ← H2.out, HL.out, all_t (zs := rs) (q := rowB) (d := rw0) (fun j hj => hv.out j (by have := H1.out; omega))]; rfl)
      go_wp2_with fail
      obtain ⟨W, hW⟩ : ∃ W, w.alloc (.cells (dskC ps ns cs pp np cp left st) 25) = W := ⟨_, rfl⟩
      rw [hW]
      rw [hW] at V0 h1
      clear hW hv
      go_loopw [47] (fun i wr => ∃ k : Nat, k ≤ np ∧ i = .int .i64 k ∧ Hid (∀ j, j < k → wtB ns (ws.getD j wt0) = true) ∧ Hid (Below w.heap.size w wr) ∧ Hid (Blk wr w.heap.size (dskC ps ns cs pp np cp left st) 25)) (fun i _ => np - (intOf i).toNat)
      case atStart => exact ⟨0, by omega, rfl, Lib.hid fun j hj => by omega, h1, V0⟩
      case round =>
        obtain ⟨k, hk, rfl, hv, HB, VR⟩ := hrel
        obtain ⟨c0, c1, c2, c3, lb⟩ := blk4_facts VR.out
        by_cases hlt : k < np
        · obtain ⟨b', off, hp, hb', hcell, hcell2, hrw⟩ := (hz.out.2.1.below HB.out).at hlt
          subst hp
          obtain ⟨⟨at_, pr, mr, cr, br⟩, hx⟩ : ∃ x, ws.getD k wt0 = x := ⟨_, rfl⟩
          rw [hx] at hcell hcell2 hrw
          dsimp only [Rw.v] at hcell hcell2
          have hmr := hrw.2.2.2.1
          have hat1 := hrw.1.1
          have hat2 := hrw.1.2
          dsimp only at hmr hat1 hat2
          have HX := Lib.hid hx; clear hx hrw
          have HB1 := fun o => Lib.hid (HB.out.alloc HB.out.size o)
          have VR1 := fun o => Lib.hid (VR.out.alloc o)
          have HS := Lib.hid (hz.out.below (HB1 (.cells #[.int .i64 at_, .slice pr mr cr] 54)).out)
          have VW := Lib.hid (Blk.new wr #[.int .i64 at_, .slice pr mr cr] 54)
          cases hs : decide (0 ≤ at_ ∧ at_ < ns) with
          | false =>
            have hs' : ¬ (0 ≤ at_ ∧ at_ < ns) := by simpa using hs
            have HE : Hid (chkE left rs ws = 40) := Lib.hid (by rw [HA.out, all_f (zs := ws) (q := wtB ns) (d := wt0) (k := k) (by rw [← H2.out]; exact hlt) (by rw [HX.out]; simp [wtB]; omega)]; rfl)
            go_wp2_with fail
            refine (sector_q at_ ps ns cs _ np cp left st rs ws _ (Lib.hid (HS.out)) false (Lib.hid hs)).mono ?_; rintro e w2 ⟨rfl, hb⟩
            have HBx := Lib.hid ((HB1 (.cells #[.int .i64 at_, .slice pr mr cr] 54)).out.trans (hb.mono (HB1 _).out.size))
            clear hb
            go_wp2_with fail
            go_ret
            exact ⟨ret_int HE.out.symm, HBx.out⟩
          | true =>
            have hs' : 0 ≤ at_ ∧ at_ < ns := by simpa using hs
            by_cases hq : mr = 128
            · subst hq
              have hv' := Lib.hid (upto hv.out (show wtB ns (ws.getD k wt0) = true by rw [HX.out]; simp [wtB]; omega))
              go_wp2_with fail
              refine (sector_q at_ ps ns cs _ np cp left st rs ws _ (Lib.hid (HS.out)) true (Lib.hid hs)).mono ?_; rintro e w2 ⟨rfl, hb⟩
              have HBx := Lib.hid ((HB1 (.cells #[.int .i64 at_, .slice pr 128 cr] 54)).out.trans (hb.mono (HB1 _).out.size))
              have VRx := Lib.hid ((VR1 (.cells #[.int .i64 at_, .slice pr 128 cr] 54)).out.below hb (VR1 _).out.lt)
              have VWx := Lib.hid (VW.out.below hb VW.out.lt)
              obtain ⟨d0, d1⟩ := (⟨VWx.out.cell 0, VWx.out.cell 1⟩ : _ ∧ _)
              have dl := VWx.out.lt
              clear hb
              go_wp2_with fail
              go_roundw
              case rel => exact ⟨k + 1, by omega, by go_num, hv', HBx, VRx⟩
              case measure => simp [intOf]; omega
            · have HE : Hid (chkE left rs ws = 40) := Lib.hid (by rw [HA.out, all_f (zs := ws) (q := wtB ns) (d := wt0) (k := k) (by rw [← H2.out]; exact hlt) (by rw [HX.out]; simp [wtB]; omega)]; rfl)
              have hq' : ((mr : Int) != 128) = true := by simp; omega
              go_wp2_with fail
              refine (sector_q at_ ps ns cs _ np cp left st rs ws _ (Lib.hid (HS.out)) true (Lib.hid hs)).mono ?_; rintro e w2 ⟨rfl, hb⟩
              have HBx := Lib.hid ((HB1 (.cells #[.int .i64 at_, .slice pr mr cr] 54)).out.trans (hb.mono (HB1 _).out.size))
              have VWx := Lib.hid (VW.out.below hb VW.out.lt)
              obtain ⟨d0, d1⟩ := (⟨VWx.out.cell 0, VWx.out.cell 1⟩ : _ ∧ _)
              have dl := VWx.out.lt
              clear hb
              go_wp2_with fail
              go_ret
              exact ⟨ret_int HE.out.symm, HBx.out⟩
        · have HE : Hid (chkE left rs ws = 0) := Lib.hid (by rw [HA.out, all_t (zs := ws) (q := wtB ns) (d := wt0) (fun j hj => hv.out j (by have := H2.out; omega))]; rfl)
          go_wp2_with fail
          go_ret
          exact ⟨ret_int HE.out.symm, HB.out⟩

end Go.Proofs.Ytackklbifppfeaa
