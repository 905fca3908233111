/- disk.Write, where it refuses. -/
import Derived.Test.YtackklbifppfeaaDskRRd
import Derived.Test.YtackklbifppfeaaDskStp
namespace Go.Proofs.Ytackklbifppfeaa
open Go.RowKit
set_option linter.unusedVariables false
set_option linter.unusedSimpArgs false

theorem run_no {left : Int} {st : Bool} {rs : List Rw} {ws : List Wt} (h : runB left st rs ws = false) : runE left st rs ws = 40 := by unfold runE; rw [h]; rfl
theorem run_yes {left : Int} {st : Bool} {rs : List Rw} {ws : List Wt} (h : runB left st rs ws = true) : runE left st rs ws = 0 := by unfold runE; rw [h]; rfl
set_option maxHeartbeats 1000000 in
theorem write_no (k : Int) (pb : Option Addr) (mb cb : Nat) (ps : Option Addr) (ns cs : Nat) (pp : Option Addr) (np cp : Nat) (left : Int) (st : Bool) (rs : List Rw) (ws : List Wt) (w : World) (hz : Hid (DskV w ps ns pp np left rs ws)) (hq : Hid ((runB left st rs ws && decide (0 ≤ k ∧ k < ns)) = false)) :
    Calls Try.prog 19 #[.agg (dskC ps ns cs pp np cp left st), .int .i64 k, .slice pb mb cb] w fun e w' => e = .returned (.tuple #[.agg #[.slice none 0 0, .slice none 0 0, .int .i64 0, .bool false], .int .i64 40]) ∧ Below w.heap.size w w' := by
  have V0 := Lib.hid (Blk.new w (dskC ps ns cs pp np cp left st) 25)
  have h1 := Lib.hid (bel_alloc1 w (.cells (dskC ps ns cs pp np cp left st) 25))
  have VW := Lib.hid (V0.out.alloc (.cells #[.slice none 0 0, .slice none 0 0, .int .i64 0, .bool false] 25))
  have ZW := Lib.hid (Blk.new (w.alloc (.cells (dskC ps ns cs pp np cp left st) 25)) #[.slice none 0 0, .slice none 0 0, .int .i64 0, .bool false] 25)
  have h2 := Lib.hid (h1.out.alloc h1.out.size (.cells #[.slice none 0 0, .slice none 0 0, .int .i64 0, .bool false] 25))
  have H0 := Lib.hid (hz.out.below h2.out)
  have m1 := hz.out.1.2.1
  have m2 := hz.out.2.1.2.1
  obtain ⟨N, hN⟩ : ∃ N, (w.alloc (.cells (dskC ps ns cs pp np cp left st) 25)).heap.size = N := ⟨_, rfl⟩
  have hNe : N = w.heap.size + 1 := by rw [← hN]; simp
  rw [hN] at ZW
  subst hNe
  clear hN
  cases hc : runB left st rs ws with
  | false =>
    have HC := Lib.hid (run_no hc)
    clear hc
    go_enter Try.func19, Try.ntmps19
    go_wp2_with fail
    refine (running_any ps ns cs pp np cp left st rs ws _ H0).mono ?_; rintro e w1 ⟨rfl, hb⟩
    have V1 := Lib.hid (VW.out.below hb VW.out.lt)
    have Z1 := Lib.hid (ZW.out.below hb ZW.out.lt)
    have B1 := Lib.hid (h2.out.trans (hb.mono h2.out.size)); clear hb
    have D1 := Lib.hid (hz.out.below B1.out)
    obtain ⟨c0, c1, c2, c3, lb⟩ := blk4_facts V1.out
    rw [HC.out]
    obtain ⟨d0, d1, d2, d3, ld⟩ := blk4_facts Z1.out
    have f0 := Z1.out.frozen 0; have f1 := Z1.out.frozen 1; have f2 := Z1.out.frozen 2; have f3 := Z1.out.frozen 3
    go_wp2_with fail
    refine bodyPost_ret (v := (.tuple #[.agg #[.slice none 0 0, .slice none 0 0, .int .i64 0, .bool false], .int .i64 40])) ?_ rfl ⟨rfl, ?_⟩
    · rw [results_cell_tmp rfl]; go_simp
    · (repeat' (first | exact B1.out | refine setCells_below (by simp <;> omega) _ _ ?_ | refine Below.setCell ?_ (by simp <;> omega) _ | refine Below.alloc ?_ (by simp <;> omega) _))
  | true =>
    have HC := Lib.hid (run_yes hc)
    have HQ := Lib.hid (show decide (0 ≤ k ∧ k < ns) = false by have := hq.out; rw [hc] at this; simpa using this)
    clear hc
    go_enter Try.func19, Try.ntmps19
    go_wp2_with fail
    refine (running_any ps ns cs pp np cp left st rs ws _ H0).mono ?_; rintro e w1 ⟨rfl, hb⟩
    have V1 := Lib.hid (VW.out.below hb VW.out.lt)
    have Z1 := Lib.hid (ZW.out.below hb ZW.out.lt)
    have B1 := Lib.hid (h2.out.trans (hb.mono h2.out.size)); clear hb
    have D1 := Lib.hid (hz.out.below B1.out)
    obtain ⟨c0, c1, c2, c3, lb⟩ := blk4_facts V1.out
    rw [HC.out]
    go_wp2_with fail
    refine (sector_q _ ps ns cs pp np cp left st rs ws _ D1 false HQ).mono ?_; rintro e w2 ⟨rfl, hb⟩
    have V2 := Lib.hid (V1.out.below hb V1.out.lt)
    have Z2 := Lib.hid (Z1.out.below hb Z1.out.lt)
    have B2 := Lib.hid (B1.out.trans (hb.mono B1.out.size)); clear hb c0 c1 c2 c3 lb
    obtain ⟨c0, c1, c2, c3, lb⟩ := blk4_facts V2.out
    obtain ⟨d0, d1, d2, d3, ld⟩ := blk4_facts Z2.out
    have f0 := Z2.out.frozen 0; have f1 := Z2.out.frozen 1; have f2 := Z2.out.frozen 2; have f3 := Z2.out.frozen 3
    go_wp2_with fail
    refine bodyPost_ret (v := (.tuple #[.agg #[.slice none 0 0, .slice none 0 0, .int .i64 0, .bool false], .int .i64 40])) ?_ rfl ⟨rfl, ?_⟩
    · rw [results_cell_tmp rfl]; go_simp
    · (repeat' (first | exact B2.out | refine setCells_below (by simp <;> omega) _ _ ?_ | refine Below.setCell ?_ (by simp <;> omega) _ | refine Below.alloc ?_ (by simp <;> omega) _))

set_option maxHeartbeats 1000000 in
theorem write_big (k0 : Nat) (pb : Option Addr) (mb cb : Nat) (ps : Option Addr) (ns cs : Nat) (pp : Option Addr) (np cp : Nat) (left : Int) (st : Bool) (rs : List Rw) (ws : List Wt) (w : World) (hz : Hid (DskV w ps ns pp np left rs ws)) (hq : Hid (runB left st rs ws = true)) (hk0 : k0 < ns) (hb1 : 128 < mb) (hb2 : mb ≤ 9223372036854775807) :
    Calls Try.prog 19 #[.agg (dskC ps ns cs pp np cp left st), .int .i64 k0, .slice pb mb cb] w fun e w' => e = .returned (.tuple #[.agg #[.slice none 0 0, .slice none 0 0, .int .i64 0, .bool false], .int .i64 1]) ∧ Below w.heap.size w w' := by
  have V0 := Lib.hid (Blk.new w (dskC ps ns cs pp np cp left st) 25)
  have h1 := Lib.hid (bel_alloc1 w (.cells (dskC ps ns cs pp np cp left st) 25))
  have VW := Lib.hid (V0.out.alloc (.cells #[.slice none 0 0, .slice none 0 0, .int .i64 0, .bool false] 25))
  have ZW := Lib.hid (Blk.new (w.alloc (.cells (dskC ps ns cs pp np cp left st) 25)) #[.slice none 0 0, .slice none 0 0, .int .i64 0, .bool false] 25)
  have h2 := Lib.hid (h1.out.alloc h1.out.size (.cells #[.slice none 0 0, .slice none 0 0, .int .i64 0, .bool false] 25))
  have H0 := Lib.hid (hz.out.below h2.out)
  have m1 := hz.out.1.2.1
  have m2 := hz.out.2.1.2.1
  obtain ⟨N, hN⟩ : ∃ N, (w.alloc (.cells (dskC ps ns cs pp np cp left st) 25)).heap.size = N := ⟨_, rfl⟩
  have hNe : N = w.heap.size + 1 := by rw [← hN]; simp
  rw [hN] at ZW
  subst hNe
  clear hN
  have HC := Lib.hid (run_yes hq.out)
  have HQ := Lib.hid (show decide (0 ≤ (k0 : Int) ∧ (k0 : Int) < ns) = true by simp; omega)
  go_enter Try.func19, Try.ntmps19
  go_wp2_with fail
  refine (running_any ps ns cs pp np cp left st rs ws _ H0).mono ?_; rintro e w1 ⟨rfl, hb⟩
  have V1 := Lib.hid (VW.out.below hb VW.out.lt)
  have Z1 := Lib.hid (ZW.out.below hb ZW.out.lt)
  have B1 := Lib.hid (h2.out.trans (hb.mono h2.out.size)); clear hb
  have D1 := Lib.hid (hz.out.below B1.out)
  obtain ⟨c0, c1, c2, c3, lb⟩ := blk4_facts V1.out
  rw [HC.out]
  go_wp2_with fail
  refine (sector_q _ ps ns cs pp np cp left st rs ws _ D1 true HQ).mono ?_; rintro e w2 ⟨rfl, hb⟩
  have V2 := Lib.hid (V1.out.below hb V1.out.lt)
  have Z2 := Lib.hid (Z1.out.below hb Z1.out.lt)
  have B2 := Lib.hid (B1.out.trans (hb.mono B1.out.size)); clear hb c0 c1 c2 c3 lb
  obtain ⟨c0, c1, c2, c3, lb⟩ := blk4_facts V2.out
  obtain ⟨d0, d1, d2, d3, ld⟩ := blk4_facts Z2.out
  have f0 := Z2.out.frozen 0; have f1 := Z2.out.frozen 1; have f2 := Z2.out.frozen 2; have f3 := Z2.out.frozen 3
  go_wp2_with fail
  refine bodyPost_ret (v := (.tuple #[.agg #[.slice none 0 0, .slice none 0 0, .int .i64 0, .bool false], .int .i64 1])) ?_ rfl ⟨rfl, ?_⟩
  · rw [results_cell_tmp rfl]; go_simp
  · (repeat' (first | exact B2.out | refine setCells_below (by simp <;> omega) _ _ ?_ | refine Below.setCell ?_ (by simp <;> omega) _ | refine Below.alloc ?_ (by simp <;> omega) _))

set_option maxHeartbeats 1000000 in
theorem write_full (k0 : Nat) (pb : Option Addr) (mb cb : Nat) (ps : Option Addr) (ns cs : Nat) (pp : Option Addr) (np cp : Nat) (left : Int) (st : Bool) (rs : List Rw) (ws : List Wt) (w : World) (hz : Hid (DskV w ps ns pp np left rs ws)) (hq : Hid (runB left st rs ws = true)) (hk0 : k0 < ns) (hb1 : mb ≤ 128) (hb2 : np = 4096) :
    Calls Try.prog 19 #[.agg (dskC ps ns cs pp np cp left st), .int .i64 k0, .slice pb mb cb] w fun e w' => e = .returned (.tuple #[.agg #[.slice none 0 0, .slice none 0 0, .int .i64 0, .bool false], .int .i64 2]) ∧ Below w.heap.size w w' := by
  have V0 := Lib.hid (Blk.new w (dskC ps ns cs pp np cp left st) 25)
  have h1 := Lib.hid (bel_alloc1 w (.cells (dskC ps ns cs pp np cp left st) 25))
  have VW := Lib.hid (V0.out.alloc (.cells #[.slice none 0 0, .slice none 0 0, .int .i64 0, .bool false] 25))
  have ZW := Lib.hid (Blk.new (w.alloc (.cells (dskC ps ns cs pp np cp left st) 25)) #[.slice none 0 0, .slice none 0 0, .int .i64 0, .bool false] 25)
  have h2 := Lib.hid (h1.out.alloc h1.out.size (.cells #[.slice none 0 0, .slice none 0 0, .int .i64 0, .bool false] 25))
  have H0 := Lib.hid (hz.out.below h2.out)
  have m1 := hz.out.1.2.1
  have m2 := hz.out.2.1.2.1
  obtain ⟨N, hN⟩ : ∃ N, (w.alloc (.cells (dskC ps ns cs pp np cp left st) 25)).heap.size = N := ⟨_, rfl⟩
  have hNe : N = w.heap.size + 1 := by rw [← hN]; simp
  rw [hN] at ZW
  subst hNe
  clear hN
  have HC := Lib.hid (run_yes hq.out)
  have HQ := Lib.hid (show decide (0 ≤ (k0 : Int) ∧ (k0 : Int) < ns) = true by simp; omega)
  subst hb2
  go_enter Try.func19, Try.ntmps19
  go_wp2_with fail
  refine (running_any ps ns cs pp 4096 cp left st rs ws _ H0).mono ?_; rintro e w1 ⟨rfl, hb⟩
  have V1 := Lib.hid (VW.out.below hb VW.out.lt)
  have Z1 := Lib.hid (ZW.out.below hb ZW.out.lt)
  have B1 := Lib.hid (h2.out.trans (hb.mono h2.out.size)); clear hb
  have D1 := Lib.hid (hz.out.below B1.out)
  obtain ⟨c0, c1, c2, c3, lb⟩ := blk4_facts V1.out
  rw [HC.out]
  go_wp2_with fail
  refine (sector_q _ ps ns cs pp 4096 cp left st rs ws _ D1 true HQ).mono ?_; rintro e w2 ⟨rfl, hb⟩
  have V2 := Lib.hid (V1.out.below hb V1.out.lt)
  have Z2 := Lib.hid (Z1.out.below hb Z1.out.lt)
  have B2 := Lib.hid (B1.out.trans (hb.mono B1.out.size)); clear hb c0 c1 c2 c3 lb
  obtain ⟨c0, c1, c2, c3, lb⟩ := blk4_facts V2.out
  obtain ⟨d0, d1, d2, d3, ld⟩ := blk4_facts Z2.out
  have f0 := Z2.out.frozen 0; have f1 := Z2.out.frozen 1; have f2 := Z2.out.frozen 2; have f3 := Z2.out.frozen 3
  go_wp2_with fail
  refine bodyPost_ret (v := (.tuple #[.agg #[.slice none 0 0, .slice none 0 0, .int .i64 0, .bool false], .int .i64 2])) ?_ rfl ⟨rfl, ?_⟩
  · rw [results_cell_tmp rfl]; go_simp
  · (repeat' (first | exact B2.out | refine setCells_below (by simp <;> omega) _ _ ?_ | refine Below.setCell ?_ (by simp <;> omega) _ | refine Below.alloc ?_ (by simp <;> omega) _))

end Go.Proofs.Ytackklbifppfeaa
