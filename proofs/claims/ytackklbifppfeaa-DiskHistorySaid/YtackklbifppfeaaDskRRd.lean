/- The reference's Read. -/
import Derived.Test.YtackklbifppfeaaDskRun
namespace Go.Proofs.Ytackklbifppfeaa
open Go.RowKit
set_option linter.unusedVariables false

/-- the row that is read: the last pending one at this place, or the sector itself -/
def readR (k0 : Nat) (r0 : Rw) (ws : List Wt) : Rw := ws.foldl (fun r x => if x.pos = (k0 : Int) then x.row else r) r0
theorem readR_step (k0 : Nat) (r0 : Rw) (ws : List Wt) {k : Nat} (hk : k < ws.length) : readR k0 r0 (ws.take (k + 1)) = if (ws.getD k wt0).pos = (k0 : Int) then (ws.getD k wt0).row else readR k0 r0 (ws.take k) := by
  rw [List.take_succ_eq_append_getElem hk, readR, List.foldl_append, List.getD_eq_getElem?_getD, List.getElem?_eq_getElem hk]; rfl
theorem rread_no (k : Int) (ps : Option Addr) (ns cs : Nat) (pp : Option Addr) (np cp : Nat) (left : Int) (st : Bool) (rs : List Rw) (ws : List Wt) (w : World) (hz : Hid (DskV w ps ns pp np left rs ws)) (hq : Hid ((runB left st rs ws && decide (0 ≤ k ∧ k < ns)) = false)) :
    Calls Try.prog 22 #[.agg (dskC ps ns cs pp np cp left st), .int .i64 k] w fun e w' => e = .returned (.tuple #[.slice none 0 0, .int .i64 40]) ∧ Below w.heap.size w w' := by
  have V0 := Lib.hid (Blk.new w (dskC ps ns cs pp np cp left st) 25)
  have h1 := Lib.hid (bel_alloc1 w (.cells (dskC ps ns cs pp np cp left st) 25))
  have H0 := Lib.hid (hz.out.below h1.out)
  have m1 := hz.out.1.2.1
  cases hc : chkB left rs ws with
  | false =>
    have HC := Lib.hid (chk_no hc)
    clear hc
    go_enter Try.func22, Try.ntmps22
    go_wp2_with fail
    refine (rcheck_any ps ns cs pp np cp left st rs ws _ H0).mono ?_; rintro e w1 ⟨rfl, hb⟩
    have V1 := Lib.hid (V0.out.below hb V0.out.lt)
    have B1 := Lib.hid (h1.out.trans (hb.mono h1.out.size)); clear hb
    obtain ⟨c0, c1, c2, c3, lb⟩ := blk4_facts V1.out
    rw [HC.out]
    go_wp2_with fail
    go_ret2
    exact ⟨rfl, B1.out⟩
  | true =>
    have HC := Lib.hid (chk_yes hc)
    cases st with
    | true =>
      clear hc
      go_enter Try.func22, Try.ntmps22
      go_wp2_with fail
      refine (rcheck_any ps ns cs pp np cp left true rs ws _ H0).mono ?_; rintro e w1 ⟨rfl, hb⟩
      have V1 := Lib.hid (V0.out.below hb V0.out.lt)
      have B1 := Lib.hid (h1.out.trans (hb.mono h1.out.size)); clear hb
      obtain ⟨c0, c1, c2, c3, lb⟩ := blk4_facts V1.out
      rw [HC.out]
      go_wp2_with fail
      go_ret2
      exact ⟨rfl, B1.out⟩
    | false =>
      have hq' : ¬ (0 ≤ k ∧ k < ns) := by
        have := hq.out
        unfold runB at this
        rw [hc] at this
        simpa using this
      clear hc
      by_cases k1 : 0 ≤ k
      · have k2 : ¬ k < ns := fun h => hq' ⟨k1, h⟩
        go_enter Try.func22, Try.ntmps22
        go_wp2_with fail
        refine (rcheck_any ps ns cs pp np cp left false rs ws _ H0).mono ?_; rintro e w1 ⟨rfl, hb⟩
        have V1 := Lib.hid (V0.out.below hb V0.out.lt)
        have B1 := Lib.hid (h1.out.trans (hb.mono h1.out.size)); clear hb
        obtain ⟨c0, c1, c2, c3, lb⟩ := blk4_facts V1.out
        rw [HC.out]
        go_wp2_with fail
        go_ret2
        exact ⟨rfl, B1.out⟩
      · go_enter Try.func22, Try.ntmps22
        go_wp2_with fail
        refine (rcheck_any ps ns cs pp np cp left false rs ws _ H0).mono ?_; rintro e w1 ⟨rfl, hb⟩
        have V1 := Lib.hid (V0.out.below hb V0.out.lt)
        have B1 := Lib.hid (h1.out.trans (hb.mono h1.out.size)); clear hb
        obtain ⟨c0, c1, c2, c3, lb⟩ := blk4_facts V1.out
        rw [HC.out]
        go_wp2_with fail
        go_ret2
        exact ⟨rfl, B1.out⟩

set_option maxHeartbeats 1000000 in
theorem rread_yes (k0 : Nat) (ps : Option Addr) (ns cs : Nat) (pp : Option Addr) (np cp : Nat) (left : Int) (st : Bool) (rs : List Rw) (ws : List Wt) (w : World) (hz : Hid (DskV w ps ns pp np left rs ws)) (hst : st = false) (hq : Hid (chkB left rs ws = true)) (hk0 : k0 < ns) :
    Calls Try.prog 22 #[.agg (dskC ps ns cs pp np cp left st), .int .i64 k0] w fun e w' => e = .returned (.tuple #[(readR k0 (rs.getD k0 rw0) ws).v, .int .i64 0]) ∧ Below w.heap.size w w' := by
  subst hst
  have V0 := Lib.hid (Blk.new w (dskC ps ns cs pp np cp left false) 25)
  have h1 := Lib.hid (bel_alloc1 w (.cells (dskC ps ns cs pp np cp left false) 25))
  have H0 := Lib.hid (hz.out.below h1.out)
  have H2 := Lib.hid hz.out.2.1.1
  have m1 := hz.out.1.2.1
  have m2 := hz.out.2.1.2.1
  have HC := Lib.hid (chk_yes hq.out)
  obtain ⟨r0, hr0⟩ : ∃ x, rs.getD k0 rw0 = x := ⟨_, rfl⟩
  rw [hr0]
  have HR0 := Lib.hid hr0
  clear hr0
  go_enter Try.func22, Try.ntmps22
  go_wp2_with fail
  refine (rcheck_any ps ns cs pp np cp left false rs ws _ H0).mono ?_; rintro e w1 ⟨rfl, hb⟩
  have V1 := Lib.hid (V0.out.below hb V0.out.lt)
  have B1 := Lib.hid (h1.out.trans (hb.mono h1.out.size)); clear hb
  obtain ⟨c0, c1, c2, c3, lb⟩ := blk4_facts V1.out
  rw [HC.out]
  obtain ⟨b', off, hp, hb', hcell, hrw⟩ := (hz.out.1.below B1.out).at hk0
  subst hp
  rw [HR0.out] at hcell
  dsimp only [Rw.v] at hcell
  clear hrw
  go_wp2_with fail
  go_loop [6, 7] (fun b i => ∃ (k : Nat) (r : Rw), k ≤ np ∧ i = .int .i64 k ∧ b = .slice r.p r.m r.c ∧ Hid (readR k0 r0 (ws.take k) = r)) (fun b i => np - (intOf i).toNat)
  case atStart => exact ⟨0, r0, by omega, rfl, rfl, Lib.hid rfl⟩
  case round =>
    obtain ⟨k, r, hk, rfl, rfl, hr⟩ := hrel
    by_cases hlt : k < np
    · obtain ⟨b2, off2, hp, hb2, hcell2, hcell3, hrw⟩ := (hz.out.2.1.below B1.out).at hlt
      subst hp
      have hs := Lib.hid (readR_step k0 r0 ws (k := k) (by rw [← H2.out]; exact hlt))
      obtain ⟨⟨at_, x⟩, hx⟩ : ∃ x, ws.getD k wt0 = x := ⟨_, rfl⟩
      rw [hx] at hs hcell2 hcell3
      dsimp only [Rw.v] at hcell2 hcell3
      clear hx hrw
      by_cases he : at_ = (k0 : Int)
      · have hs' := Lib.hid (hs.out.trans (if_pos he))
        subst he
        clear hs hr
        go_wp2_with fail
        go_round
        case rel => exact ⟨k + 1, x, by omega, by go_num, rfl, hs'⟩
        case measure => simp [intOf]; omega
      · have hs' := Lib.hid ((hs.out.trans (if_neg he)).trans hr.out)
        have he' : (at_ == (k0 : Int)) = false := by simp [he]
        clear hs hr
        go_wp2_with fail
        go_round
        case rel => exact ⟨k + 1, r, by omega, by go_num, rfl, hs'⟩
        case measure => simp [intOf]; omega
    · have HR := Lib.hid (show readR k0 r0 ws = r by rw [← hr.out, List.take_of_length_le (by have := H2.out; omega)])
      go_wp2_with fail
      go_ret2
      exact ⟨by rw [HR.out]; rfl, B1.out⟩
end Go.Proofs.Ytackklbifppfeaa
