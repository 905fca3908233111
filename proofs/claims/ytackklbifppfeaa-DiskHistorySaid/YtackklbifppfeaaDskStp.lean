/- Stop. -/
import Derived.Test.YtackklbifppfeaaDskRun
namespace Go.Proofs.Ytackklbifppfeaa
open Go.RowKit
set_option linter.unusedVariables false

def stopR (ps : Option Addr) (ns cs : Nat) (pp : Option Addr) (np cp : Nat) (k : Int) (st run : Bool) : Value :=
  if run then (if 0 ≤ k ∧ k ≤ 65536 then (.tuple #[.agg (dskC ps ns cs pp np cp k st), .int .i64 0]) else (.tuple #[.agg #[.slice none 0 0, .slice none 0 0, .int .i64 0, .bool false], .int .i64 1])) else (.tuple #[.agg #[.slice none 0 0, .slice none 0 0, .int .i64 0, .bool false], .int .i64 40])
set_option maxHeartbeats 1000000 in
theorem stop_any (k : Int) (ps : Option Addr) (ns cs : Nat) (pp : Option Addr) (np cp : Nat) (left : Int) (st : Bool) (rs : List Rw) (ws : List Wt) (w : World) (hz : Hid (DskV w ps ns pp np left rs ws)) :
    Calls Try.prog 25 #[.agg (dskC ps ns cs pp np cp left st), .int .i64 k] w fun e w' => e = .returned (stopR ps ns cs pp np cp k st (runB left st rs ws)) ∧ Below w.heap.size w w' := by
  have V0 := Lib.hid (Blk.new w (dskC ps ns cs pp np cp left st) 25)
  have h1 := Lib.hid (bel_alloc1 w (.cells (dskC ps ns cs pp np cp left st) 25))
  have VW := Lib.hid (V0.out.alloc (.cells #[.slice none 0 0, .slice none 0 0, .int .i64 0, .bool false] 25))
  have ZW := Lib.hid (Blk.new (w.alloc (.cells (dskC ps ns cs pp np cp left st) 25)) #[.slice none 0 0, .slice none 0 0, .int .i64 0, .bool false] 25)
  have h2 := Lib.hid (h1.out.alloc h1.out.size (.cells #[.slice none 0 0, .slice none 0 0, .int .i64 0, .bool false] 25))
  have H0 := Lib.hid (hz.out.below h2.out)
  obtain ⟨N, hN⟩ : ∃ N, (w.alloc (.cells (dskC ps ns cs pp np cp left st) 25)).heap.size = N := ⟨_, rfl⟩
  have hNe : N = w.heap.size + 1 := by rw [← hN]; simp
  rw [hN] at ZW
  subst hNe
  clear hN
  cases hc : runB left st rs ws with
  | false =>
    have HC := Lib.hid (show runE left st rs ws = 40 by unfold runE; rw [hc]; rfl)
    have HE : Hid (stopR ps ns cs pp np cp k st false = (.tuple #[.agg #[.slice none 0 0, .slice none 0 0, .int .i64 0, .bool false], .int .i64 40])) := Lib.hid rfl
    clear hc
    go_enter Try.func25, Try.ntmps25
    go_wp2_with fail
    refine (running_any ps ns cs pp np cp left st rs ws _ H0).mono ?_; rintro e w1 ⟨rfl, hb⟩
    have V1 := Lib.hid (VW.out.below hb VW.out.lt)
    have Z1 := Lib.hid (ZW.out.below hb ZW.out.lt)
    have B1 := Lib.hid (h2.out.trans (hb.mono h2.out.size)); clear hb
    obtain ⟨c0, c1, c2, c3, lb⟩ := blk4_facts V1.out
    obtain ⟨d0, d1, d2, d3, ld⟩ := blk4_facts Z1.out
    have f0 := Z1.out.frozen 0; have f1 := Z1.out.frozen 1; have f2 := Z1.out.frozen 2; have f3 := Z1.out.frozen 3
    have g2 := V1.out.frozen 2
    rw [HC.out]
    go_wp2_with fail
    refine bodyPost_ret (v := (.tuple #[.agg #[.slice none 0 0, .slice none 0 0, .int .i64 0, .bool false], .int .i64 40])) ?_ rfl ⟨by rw [HE.out], ?_⟩
    · rw [results_cell_tmp rfl]; go_simp
    · (repeat' (first | exact B1.out | refine setCells_below (by simp <;> omega) _ _ ?_ | refine Below.setCell ?_ (by simp <;> omega) _ | refine Below.alloc ?_ (by simp <;> omega) _))
  | true =>
    have HC := Lib.hid (show runE left st rs ws = 0 by unfold runE; rw [hc]; rfl)
    clear hc
    by_cases k1 : 0 ≤ k
    · by_cases k2 : k ≤ 65536
      · have HE : Hid (stopR ps ns cs pp np cp k st true = (.tuple #[.agg (dskC ps ns cs pp np cp k st), .int .i64 0])) := Lib.hid (by unfold stopR; rw [if_pos rfl, if_pos ⟨k1, k2⟩])
        go_enter Try.func25, Try.ntmps25
        go_wp2_with fail
        refine (running_any ps ns cs pp np cp left st rs ws _ H0).mono ?_; rintro e w1 ⟨rfl, hb⟩
        have V1 := Lib.hid (VW.out.below hb VW.out.lt)
        have Z1 := Lib.hid (ZW.out.below hb ZW.out.lt)
        have B1 := Lib.hid (h2.out.trans (hb.mono h2.out.size)); clear hb
        obtain ⟨c0, c1, c2, c3, lb⟩ := blk4_facts V1.out
        obtain ⟨d0, d1, d2, d3, ld⟩ := blk4_facts Z1.out
        have f0 := Z1.out.frozen 0; have f1 := Z1.out.frozen 1; have f2 := Z1.out.frozen 2; have f3 := Z1.out.frozen 3
        have g2 := V1.out.frozen 2
        rw [HC.out]
        go_wp2_with fail
        refine bodyPost_ret (v := (.tuple #[.agg (dskC ps ns cs pp np cp k st), .int .i64 0])) ?_ rfl ⟨by rw [HE.out], ?_⟩
        · rw [results_cell_tmp rfl]; go_simp
        · (repeat' (first | exact B1.out | refine setCells_below (by simp <;> omega) _ _ ?_ | refine Below.setCell ?_ (by simp <;> omega) _ | refine Below.alloc ?_ (by simp <;> omega) _))
      · have HE : Hid (stopR ps ns cs pp np cp k st true = (.tuple #[.agg #[.slice none 0 0, .slice none 0 0, .int .i64 0, .bool false], .int .i64 1])) := Lib.hid (by unfold stopR; rw [if_pos rfl, if_neg (fun h => k2 h.2)])
        go_enter Try.func25, Try.ntmps25
        go_wp2_with fail
        refine (running_any ps ns cs pp np cp left st rs ws _ H0).mono ?_; rintro e w1 ⟨rfl, hb⟩
        have V1 := Lib.hid (VW.out.below hb VW.out.lt)
        have Z1 := Lib.hid (ZW.out.below hb ZW.out.lt)
        have B1 := Lib.hid (h2.out.trans (hb.mono h2.out.size)); clear hb
        obtain ⟨c0, c1, c2, c3, lb⟩ := blk4_facts V1.out
        obtain ⟨d0, d1, d2, d3, ld⟩ := blk4_facts Z1.out
        have f0 := Z1.out.frozen 0; have f1 := Z1.out.frozen 1; have f2 := Z1.out.frozen 2; have f3 := Z1.out.frozen 3
        have g2 := V1.out.frozen 2
        rw [HC.out]
        go_wp2_with fail
        refine bodyPost_ret (v := (.tuple #[.agg #[.slice none 0 0, .slice none 0 0, .int .i64 0, .bool false], .int .i64 1])) ?_ rfl ⟨by rw [HE.out], ?_⟩
        · rw [results_cell_tmp rfl]; go_simp
        · (repeat' (first | exact B1.out | refine setCells_below (by simp <;> omega) _ _ ?_ | refine Below.setCell ?_ (by simp <;> omega) _ | refine Below.alloc ?_ (by simp <;> omega) _))
    · have HE : Hid (stopR ps ns cs pp np cp k st true = (.tuple #[.agg #[.slice none 0 0, .slice none 0 0, .int .i64 0, .bool false], .int .i64 1])) := Lib.hid (by unfold stopR; rw [if_pos rfl, if_neg (fun h => k1 h.1)])
      go_enter Try.func25, Try.ntmps25
      go_wp2_with fail
      refine (running_any ps ns cs pp np cp left st rs ws _ H0).mono ?_; rintro e w1 ⟨rfl, hb⟩
      have V1 := Lib.hid (VW.out.below hb VW.out.lt)
      have Z1 := Lib.hid (ZW.out.below hb ZW.out.lt)
      have B1 := Lib.hid (h2.out.trans (hb.mono h2.out.size)); clear hb
      obtain ⟨c0, c1, c2, c3, lb⟩ := blk4_facts V1.out
      obtain ⟨d0, d1, d2, d3, ld⟩ := blk4_facts Z1.out
      have f0 := Z1.out.frozen 0; have f1 := Z1.out.frozen 1; have f2 := Z1.out.frozen 2; have f3 := Z1.out.frozen 3
      have g2 := V1.out.frozen 2
      rw [HC.out]
      go_wp2_with fail
      refine bodyPost_ret (v := (.tuple #[.agg #[.slice none 0 0, .slice none 0 0, .int .i64 0, .bool false], .int .i64 1])) ?_ rfl ⟨by rw [HE.out], ?_⟩
      · rw [results_cell_tmp rfl]; go_simp
      · (repeat' (first | exact B1.out | refine setCells_below (by simp <;> omega) _ _ ?_ | refine Below.setCell ?_ (by simp <;> omega) _ | refine Below.alloc ?_ (by simp <;> omega) _))

end Go.Proofs.Ytackklbifppfeaa
