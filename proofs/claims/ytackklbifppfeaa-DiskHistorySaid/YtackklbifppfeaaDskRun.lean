/- running and Restart, of the program and of the reference. -/
import Derived.Test.YtackklbifppfeaaDskChk
import Derived.Test.YtackklbifppfeaaDskRChk
namespace Go.Proofs.Ytackklbifppfeaa
open Go.RowKit
set_option linter.unusedVariables false

def runB (left : Int) (st : Bool) (rs : List Rw) (ws : List Wt) : Bool := chkB left rs ws && !st
def runE (left : Int) (st : Bool) (rs : List Rw) (ws : List Wt) : Int := if runB left st rs ws then 0 else 40
theorem chk_no {left : Int} {rs : List Rw} {ws : List Wt} (h : chkB left rs ws = false) : chkE left rs ws = 40 := by unfold chkE; rw [h]; rfl
theorem chk_yes {left : Int} {rs : List Rw} {ws : List Wt} (h : chkB left rs ws = true) : chkE left rs ws = 0 := by unfold chkE; rw [h]; rfl

theorem restart_any (ps : Option Addr) (ns cs : Nat) (pp : Option Addr) (np cp : Nat) (left : Int) (st : Bool) (rs : List Rw) (ws : List Wt) (w : World) (hz : Hid (DskV w ps ns pp np left rs ws)) :
    Calls Try.prog 17 #[.agg (dskC ps ns cs pp np cp left st)] w fun e w' => e = .returned (.agg (dskC ps ns cs none 0 0 (-1) false)) ∧ Below w.heap.size w w' := by
  clear hz
  go_enter Try.func17, Try.ntmps17
  go_wp2_with fail
  refine bodyPost_ret (v := .agg (dskC ps ns cs none 0 0 (-1) false)) ?_ rfl ⟨rfl, ?_⟩
  · rw [results_cell_one rfl]; go_simp
  · (repeat' (first | exact Below.refl _ _ | refine Below.setCell ?_ (by simp <;> omega) _ | refine Below.alloc ?_ (by simp <;> omega) _))
theorem rrestart_any (ps : Option Addr) (ns cs : Nat) (pp : Option Addr) (np cp : Nat) (left : Int) (st : Bool) (rs : List Rw) (ws : List Wt) (w : World) (hz : Hid (DskV w ps ns pp np left rs ws)) :
    Calls Try.prog 18 #[.agg (dskC ps ns cs pp np cp left st)] w fun e w' => e = .returned (.agg (dskC ps ns cs none 0 0 (-1) false)) ∧ Below w.heap.size w w' := by
  clear hz
  go_enter Try.func18, Try.ntmps18
  go_wp2_with fail
  refine bodyPost_ret (v := .agg (dskC ps ns cs none 0 0 (-1) false)) ?_ rfl ⟨rfl, ?_⟩
  · rw [results_cell_one rfl]; go_simp
  · (repeat' (first | exact Below.refl _ _ | refine Below.setCell ?_ (by simp <;> omega) _ | refine Below.alloc ?_ (by simp <;> omega) _))

theorem running_any (ps : Option Addr) (ns cs : Nat) (pp : Option Addr) (np cp : Nat) (left : Int) (st : Bool) (rs : List Rw) (ws : List Wt) (w : World) (hz : Hid (DskV w ps ns pp np left rs ws)) :
    Calls Try.prog 30 #[.agg (dskC ps ns cs pp np cp left st)] w fun e w' => e = .returned (.int .i64 (runE left st rs ws)) ∧ Below w.heap.size w w' := by
  have V0 := Lib.hid (Blk.new w (dskC ps ns cs pp np cp left st) 25)
  have h1 := Lib.hid (bel_alloc1 w (.cells (dskC ps ns cs pp np cp left st) 25))
  have H0 := Lib.hid (hz.out.below h1.out)
  cases hc : chkB left rs ws with
  | false =>
    have HC := Lib.hid (chk_no hc)
    have HE : Hid (runE left st rs ws = 40) := Lib.hid (by unfold runE runB; rw [hc]; rfl)
    clear hc
    go_enter Try.func30, Try.ntmps30
    go_wp2_with fail
    refine (check_any ps ns cs pp np cp left st rs ws _ H0).mono ?_; rintro e w1 ⟨rfl, hb⟩
    have V1 := Lib.hid (V0.out.below hb V0.out.lt)
    have B1 := Lib.hid (h1.out.trans (hb.mono h1.out.size)); clear hb
    obtain ⟨c0, c1, c2, c3, lb⟩ := blk4_facts V1.out
    rw [HC.out]
    go_wp2_with fail
    go_ret
    exact ⟨ret_int HE.out.symm, B1.out⟩
  | true =>
    have HC := Lib.hid (chk_yes hc)
    cases st with
    | true =>
      have HE : Hid (runE left true rs ws = 40) := Lib.hid (by unfold runE runB; rw [hc]; rfl)
      clear hc
      go_enter Try.func30, Try.ntmps30
      go_wp2_with fail
      refine (check_any ps ns cs pp np cp left true rs ws _ H0).mono ?_; rintro e w1 ⟨rfl, hb⟩
      have V1 := Lib.hid (V0.out.below hb V0.out.lt)
      have B1 := Lib.hid (h1.out.trans (hb.mono h1.out.size)); clear hb
      obtain ⟨c0, c1, c2, c3, lb⟩ := blk4_facts V1.out
      rw [HC.out]
      go_wp2_with fail
      go_ret
      exact ⟨ret_int HE.out.symm, B1.out⟩
    | false =>
      have HE : Hid (runE left false rs ws = 0) := Lib.hid (by unfold runE runB; rw [hc]; rfl)
      clear hc
      go_enter Try.func30, Try.ntmps30
      go_wp2_with fail
      refine (check_any ps ns cs pp np cp left false rs ws _ H0).mono ?_; rintro e w1 ⟨rfl, hb⟩
      have V1 := Lib.hid (V0.out.below hb V0.out.lt)
      have B1 := Lib.hid (h1.out.trans (hb.mono h1.out.size)); clear hb
      obtain ⟨c0, c1, c2, c3, lb⟩ := blk4_facts V1.out
      rw [HC.out]
      go_wp2_with fail
      go_ret
      exact ⟨ret_int HE.out.symm, B1.out⟩

end Go.Proofs.Ytackklbifppfeaa
