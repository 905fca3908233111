/- disk.Sync; both where they refuse. -/
import Derived.Test.YtackklbifppfeaaDskSyS
namespace Go.Proofs.Ytackklbifppfeaa
open Go.RowKit
set_option linter.unusedVariables false
set_option linter.unusedSimpArgs false

set_option maxHeartbeats 1000000 in
theorem sync_no (ps : Option Addr) (ns cs : Nat) (pp : Option Addr) (np cp : Nat) (left : Int) (st : Bool) (rs : List Rw) (ws : List Wt) (w : World) (hz : Hid (DskV w ps ns pp np left rs ws)) (hq : Hid (runB left st rs ws = false)) :
    Calls Try.prog 23 #[.agg (dskC ps ns cs pp np cp left st)] w fun e w' => e = .returned (.tuple #[.agg #[.slice none 0 0, .slice none 0 0, .int .i64 0, .bool false], .int .i64 40]) ∧ Below w.heap.size w w' := by
  have V0 := Lib.hid (Blk.new w (dskC ps ns cs pp np cp left st) 25)
  have h1 := Lib.hid (bel_alloc1 w (.cells (dskC ps ns cs pp np cp left st) 25))
  have VW := Lib.hid (V0.out.alloc (.cells #[.slice none 0 0, .slice none 0 0, .int .i64 0, .bool false] 25))
  have ZW := Lib.hid (Blk.new (w.alloc (.cells (dskC ps ns cs pp np cp left st) 25)) #[.slice none 0 0, .slice none 0 0, .int .i64 0, .bool false] 25)
  have h2 := Lib.hid (h1.out.alloc h1.out.size (.cells #[.slice none 0 0, .slice none 0 0, .int .i64 0, .bool false] 25))
  have H0 := Lib.hid (hz.out.below h2.out)
  have m1 := hz.out.1.2.1
  have m2 := hz.out.2.1.2.1
  obtain ⟨N, hN⟩ : ∃ N, (w.alloc (.cells (dskC ps ns cs pp np cp left st) 25)).heap.size = N := ⟨_, rfl⟩
  have hNe : N = w.heap.size + 1 := by rw [← hN]; simp
  rw [hN] at ZW
  subst hNe
  clear hN
  have HC := Lib.hid (run_no hq.out)
  go_enter Try.func23, Try.ntmps23
  go_wp2_with fail
  refine (running_any ps ns cs pp np cp left st rs ws _ H0).mono ?_; rintro e w1 ⟨rfl, hb⟩
  have V1 := Lib.hid (VW.out.below hb VW.out.lt)
  have Z1 := Lib.hid (ZW.out.below hb ZW.out.lt)
  have B1 := Lib.hid (h2.out.trans (hb.mono h2.out.size)); clear hb
  have D1 := Lib.hid (hz.out.below B1.out)
  obtain ⟨c0, c1, c2, c3, lb⟩ := blk4_facts V1.out
  rw [HC.out]
  obtain ⟨d0, d1, d2, d3, ld⟩ := blk4_facts Z1.out
  have f0 := Z1.out.frozen 0; have f1 := Z1.out.frozen 1; have f2 := Z1.out.frozen 2; have f3 := Z1.out.frozen 3
  go_wp2_with fail
  refine bodyPost_ret (v := (.tuple #[.agg #[.slice none 0 0, .slice none 0 0, .int .i64 0, .bool false], .int .i64 40])) ?_ rfl ⟨rfl, ?_⟩
  · rw [results_cell_tmp rfl]; go_simp
  · (repeat' (first | exact B1.out | refine setCells_below (by simp <;> omega) _ _ ?_ | refine Below.setCell ?_ (by simp <;> omega) _ | refine Below.alloc ?_ (by simp <;> omega) _))

set_option maxHeartbeats 1000000 in
theorem rsync_no (ps : Option Addr) (ns cs : Nat) (pp : Option Addr) (np cp : Nat) (left : Int) (st : Bool) (rs : List Rw) (ws : List Wt) (w : World) (hz : Hid (DskV w ps ns pp np left rs ws)) (hq : Hid (runB left st rs ws = false)) :
    Calls Try.prog 24 #[.agg (dskC ps ns cs pp np cp left st)] w fun e w' => e = .returned (.tuple #[.agg #[.slice none 0 0, .slice none 0 0, .int .i64 0, .bool false], .int .i64 40]) ∧ Below w.heap.size w w' := by
  have V0 := Lib.hid (Blk.new w (dskC ps ns cs pp np cp left st) 25)
  have h1 := Lib.hid (bel_alloc1 w (.cells (dskC ps ns cs pp np cp left st) 25))
  have VW := Lib.hid (V0.out.alloc (.cells #[.slice none 0 0, .slice none 0 0, .int .i64 0, .bool false] 25))
  have ZW := Lib.hid (Blk.new (w.alloc (.cells (dskC ps ns cs pp np cp left st) 25)) #[.slice none 0 0, .slice none 0 0, .int .i64 0, .bool false] 25)
  have h2 := Lib.hid (h1.out.alloc h1.out.size (.cells #[.slice none 0 0, .slice none 0 0, .int .i64 0, .bool false] 25))
  have H0 := Lib.hid (hz.out.below h2.out)
  have m1 := hz.out.1.2.1
  have m2 := hz.out.2.1.2.1
  obtain ⟨N, hN⟩ : ∃ N, (w.alloc (.cells (dskC ps ns cs pp np cp left st) 25)).heap.size = N := ⟨_, rfl⟩
  have hNe : N = w.heap.size + 1 := by rw [← hN]; simp
  rw [hN] at ZW
  subst hNe
  clear hN
  cases hc : chkB left rs ws with
  | false =>
    have HC := Lib.hid (chk_no hc)
    clear hc
    go_enter Try.func24, Try.ntmps24
    go_wp2_with fail
    refine (rcheck_any ps ns cs pp np cp left st rs ws _ H0).mono ?_; rintro e w1 ⟨rfl, hb⟩
    have V1 := Lib.hid (VW.out.below hb VW.out.lt)
    have Z1 := Lib.hid (ZW.out.below hb ZW.out.lt)
    have B1 := Lib.hid (h2.out.trans (hb.mono h2.out.size)); clear hb
    obtain ⟨c0, c1, c2, c3, lb⟩ := blk4_facts V1.out
    rw [HC.out]
    obtain ⟨d0, d1, d2, d3, ld⟩ := blk4_facts Z1.out
    have f0 := Z1.out.frozen 0; have f1 := Z1.out.frozen 1; have f2 := Z1.out.frozen 2; have f3 := Z1.out.frozen 3
    go_wp2_with fail
    refine bodyPost_ret (v := (.tuple #[.agg #[.slice none 0 0, .slice none 0 0, .int .i64 0, .bool false], .int .i64 40])) ?_ rfl ⟨rfl, ?_⟩
    · rw [results_cell_tmp rfl]; go_simp
    · (repeat' (first | exact B1.out | refine setCells_below (by simp <;> omega) _ _ ?_ | refine Below.setCell ?_ (by simp <;> omega) _ | refine Below.alloc ?_ (by simp <;> omega) _))
  | true =>
    have HC := Lib.hid (chk_yes hc)
    have hst : st = true := by have := hq.out; unfold runB at this; rw [hc] at this; simpa using this
    subst hst
    clear hc hq
    go_enter Try.func24, Try.ntmps24
    go_wp2_with fail
    refine (rcheck_any ps ns cs pp np cp left true rs ws _ H0).mono ?_; rintro e w1 ⟨rfl, hb⟩
    have V1 := Lib.hid (VW.out.below hb VW.out.lt)
    have Z1 := Lib.hid (ZW.out.below hb ZW.out.lt)
    have B1 := Lib.hid (h2.out.trans (hb.mono h2.out.size)); clear hb
    obtain ⟨c0, c1, c2, c3, lb⟩ := blk4_facts V1.out
    rw [HC.out]
    obtain ⟨d0, d1, d2, d3, ld⟩ := blk4_facts Z1.out
    have f0 := Z1.out.frozen 0; have f1 := Z1.out.frozen 1; have f2 := Z1.out.frozen 2; have f3 := Z1.out.frozen 3
    go_wp2_with fail
    refine bodyPost_ret (v := (.tuple #[.agg #[.slice none 0 0, .slice none 0 0, .int .i64 0, .bool false], .int .i64 40])) ?_ rfl ⟨rfl, ?_⟩
    · rw [results_cell_tmp rfl]; go_simp
    · (repeat' (first | exact B1.out | refine setCells_below (by simp <;> omega) _ _ ?_ | refine Below.setCell ?_ (by simp <;> omega) _ | refine Below.alloc ?_ (by simp <;> omega) _))

theorem sync_yes (ps : Option Addr) (ns cs : Nat) (pp : Option Addr) (np cp : Nat) (left : Int) (st : Bool) (rs : List Rw) (ws : List Wt) (w : World) (hz : Hid (DskV w ps ns pp np left rs ws)) (hq : Hid (runB left st rs ws = true)) (hp1 : np ≤ cp) (hp2 : cp ≤ 9223372036854775807) (hp3 : pp = none → np = 0 ∧ cp = 0) :
    Calls Try.prog 23 #[.agg (dskC ps ns cs pp np cp left st)] w fun e w' => IsSyn w.heap.size ns rs ws left w' e ∧ Below w.heap.size w w' := by
  have hf := run_facts hq.out
  obtain rfl := hf.2.2.2
  cases pp with
  | none =>
    obtain ⟨rfl, rfl⟩ := hp3 rfl
    by_cases h1 : left = -1
    · subst h1; exact sync_n1 ps ns cs rs ws w hz hq hp1 hp2
    · obtain ⟨lf, rfl⟩ : ∃ lf : Nat, left = (lf : Int) := ⟨left.toNat, by omega⟩
      exact sync_n2 lf ps ns cs rs ws w hz hq hp1 hp2
  | some pa =>
    by_cases h1 : left = -1
    · subst h1; exact sync_m1 pa ps ns cs np cp rs ws w hz hq hp1 hp2
    · obtain ⟨lf, rfl⟩ : ∃ lf : Nat, left = (lf : Int) := ⟨left.toNat, by omega⟩
      by_cases h2 : np ≤ lf
      · exact sync_go lf pa ps ns cs np cp rs ws w hz hq hp1 hp2 h2
      · exact sync_stop lf pa ps ns cs np cp rs ws w hz hq hp1 hp2 (by omega)
end Go.Proofs.Ytackklbifppfeaa
