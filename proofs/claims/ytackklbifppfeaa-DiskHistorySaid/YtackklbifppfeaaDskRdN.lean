/- disk.Read, where it refuses. -/
import Derived.Test.YtackklbifppfeaaDskRd
namespace Go.Proofs.Ytackklbifppfeaa
open Go.RowKit
set_option linter.unusedVariables false
set_option linter.unusedSimpArgs false

set_option maxHeartbeats 1000000 in
theorem read_no (k : Int) (ps : Option Addr) (ns cs : Nat) (pp : Option Addr) (np cp : Nat) (left : Int) (st : Bool) (rs : List Rw) (ws : List Wt) (w : World) (hz : Hid (DskV w ps ns pp np left rs ws)) (hq : Hid ((runB left st rs ws && decide (0 ≤ k ∧ k < ns)) = false)) :
    Calls Try.prog 21 #[.agg (dskC ps ns cs pp np cp left st), .int .i64 k] w fun e w' => e = .returned (.tuple #[.slice none 0 0, .int .i64 40]) ∧ Below w.heap.size w w' := by
  have m1 := hz.out.1.2.1
  have VW := Lib.hid (by
    have h := ((((Blks.nil w).box (dskC ps ns cs pp np cp left st) 25).box #[.int .i64 k] 3).box #[.slice none 0 0] 35).box #[.int .i64 0] 28
    simp only [World.size_alloc] at h; exact h)
  have h2 := Lib.hid ((((bel_alloc1 w (.cells (dskC ps ns cs pp np cp left st) 25)).alloc (by simp) (.cells #[.int .i64 k] 3)).alloc (by simp; omega) (.cells #[.slice none 0 0] 35)).alloc (by simp; omega) (.cells #[.int .i64 0] 28))
  have H0 := Lib.hid (hz.out.below h2.out)
  cases hc : runB left st rs ws with
  | false =>
    have HC := Lib.hid (run_no hc)
    clear hc
    go_enter Try.func21, Try.ntmps21
    go_wp2_with fail
    refine (running_any ps ns cs pp np cp left st rs ws _ H0).mono ?_; rintro e w1 ⟨rfl, hb⟩
    have V1 := Lib.hid (VW.out.below hb)
    have B1 := Lib.hid (h2.out.trans (hb.mono h2.out.size)); clear hb
    have D1 := Lib.hid (hz.out.below B1.out)
    obtain ⟨c0, c1, c2, c3, lb⟩ := blk4_facts V1.out.2.2.2.1
    have k0c : w1.cell? ⟨w.heap.size + 1, 0, none⟩ = some (.int .i64 k) := V1.out.2.2.1.cell 0
    have f2 := V1.out.2.1.frozen 0; have f3 := V1.out.1.frozen 0
    have e2 := V1.out.2.1.cell 0; have e3 := V1.out.1.cell 0
    simp at e2 e3
    rw [HC.out]
    go_wp2_with fail
    refine bodyPost_ret (v := .tuple #[.slice none 0 0, .int .i64 40]) ?_ rfl ⟨rfl, ?_⟩
    · simp [results, Try.f21, go_sem, e2, e3]
    · exact (B1.out.setCell (p := ⟨w.heap.size + 1 + 1, 0, none⟩) (by show w.heap.size ≤ w.heap.size + 1 + 1; omega) _).setCell (p := ⟨w.heap.size + 1 + 1 + 1, 0, none⟩) (by show w.heap.size ≤ w.heap.size + 1 + 1 + 1; omega) _
  | true =>
    have HC := Lib.hid (run_yes hc)
    have HQ := Lib.hid (show decide (0 ≤ k ∧ k < ns) = false by have := hq.out; rw [hc] at this; simpa using this)
    clear hc
    go_enter Try.func21, Try.ntmps21
    go_wp2_with fail
    refine (running_any ps ns cs pp np cp left st rs ws _ H0).mono ?_; rintro e w1 ⟨rfl, hb⟩
    have V1 := Lib.hid (VW.out.below hb)
    have B1 := Lib.hid (h2.out.trans (hb.mono h2.out.size)); clear hb
    have D1 := Lib.hid (hz.out.below B1.out)
    obtain ⟨c0, c1, c2, c3, lb⟩ := blk4_facts V1.out.2.2.2.1
    have k0c : w1.cell? ⟨w.heap.size + 1, 0, none⟩ = some (.int .i64 k) := V1.out.2.2.1.cell 0
    have f2 := V1.out.2.1.frozen 0; have f3 := V1.out.1.frozen 0
    have e2 := V1.out.2.1.cell 0; have e3 := V1.out.1.cell 0
    simp at e2 e3
    rw [HC.out]
    go_wp2_with fail
    refine (sector_q k ps ns cs pp np cp left st rs ws _ D1 false HQ).mono ?_; rintro e w2 ⟨rfl, hb⟩
    have V2 := Lib.hid (V1.out.below hb)
    have B2 := Lib.hid (B1.out.trans (hb.mono B1.out.size)); clear hb c0 c1 c2 c3 lb k0c f2 f3 e2 e3
    have f2 := V2.out.2.1.frozen 0; have f3 := V2.out.1.frozen 0
    have e2 := V2.out.2.1.cell 0; have e3 := V2.out.1.cell 0
    simp at e2 e3
    go_wp2_with fail
    refine bodyPost_ret (v := .tuple #[.slice none 0 0, .int .i64 40]) ?_ rfl ⟨rfl, ?_⟩
    · simp [results, Try.f21, go_sem, e2, e3]
    · exact (B2.out.setCell (p := ⟨w.heap.size + 1 + 1, 0, none⟩) (by show w.heap.size ≤ w.heap.size + 1 + 1; omega) _).setCell (p := ⟨w.heap.size + 1 + 1 + 1, 0, none⟩) (by show w.heap.size ≤ w.heap.size + 1 + 1 + 1; omega) _

end Go.Proofs.Ytackklbifppfeaa
