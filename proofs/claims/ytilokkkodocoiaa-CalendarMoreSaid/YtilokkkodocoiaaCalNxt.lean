/- Package calendar: Next. -/
import Derived.Test.YtilokkkodocoiaaCalMom
namespace Go.Proofs.Ytilokkkodocoiaa
open Go.RowKit Go.Shelf
set_option linter.unusedVariables false
set_option linter.unusedSimpArgs false
attribute [local go_sem] Oper.semAt_some

def farB (a : Int) : Bool := decide (a < 0) || decide (2097152 < a)
def nxtE (rs : List Rl) (gs : List Gp) (a : Int) : Int := if chkE rs gs = 0 then (if farB a = true then 1 else 0) else chkE rs gs
def nxtM (rs : List Rl) (gs : List Gp) (a : Int) : Int := if nxtE rs gs a = 0 then (depL rs gs a).headD 0 else 0
def nxtB (rs : List Rl) (gs : List Gp) (a : Int) : Bool := if nxtE rs gs a = 0 then !(depL rs gs a).isEmpty else false
section
variable {rs : List Rl} {gs : List Gp} {a : Int}
theorem nxtE_chk (h : chkE rs gs ≠ 0) : nxtE rs gs a = chkE rs gs := if_neg h
theorem nxtE_bad (h : chkE rs gs = 0) (k : farB a = true) : nxtE rs gs a = 1 := by unfold nxtE; rw [if_pos h, if_pos k]
theorem nxtE_ok (h : chkE rs gs = 0) (k : farB a = false) : nxtE rs gs a = 0 := by unfold nxtE; rw [if_pos h, k, if_neg (by simp)]
theorem nxt_nil (h : nxtE rs gs a ≠ 0) : nxtM rs gs a = 0 ∧ nxtB rs gs a = false := ⟨if_neg h, if_neg h⟩
theorem nxt_none (h : nxtE rs gs a = 0) (k : depL rs gs a = []) : nxtM rs gs a = 0 ∧ nxtB rs gs a = false := by unfold nxtM nxtB; rw [if_pos h, if_pos h, k]; exact ⟨rfl, rfl⟩
theorem nxt_some (h : nxtE rs gs a = 0) {x : Int} {l : List Int} (k : depL rs gs a = x :: l) : nxtM rs gs a = x ∧ nxtB rs gs a = true := by unfold nxtM nxtB; rw [if_pos h, if_pos h, k]; exact ⟨rfl, rfl⟩
end
set_option maxRecDepth 100000 in
set_option maxHeartbeats 8000000 in
theorem cnxt_chk (p : Option Addr) (n c : Nat) (rs : List Rl) (q : Option Addr) (m d : Nat) (gs : List Gp) (a : Int) (w : World) (hr : Hid (RulesV w p n c rs)) (hg : Hid (GapsV w q m d gs)) (E : Int) (hE : Hid (chkE rs gs = E)) (hne : ¬ E = 0) :
    Calls Try.prog 15 #[.slice p n c, .slice q m d, .int .i64 a] w fun e w' => e = .returned (.tuple #[.int .i64 0, .bool false, .int .i64 E]) ∧ Below w.heap.size w w' := by
  have M0 := Lib.hid (show Blk (((w.alloc (.cells #[.int .i64 0] 3)).alloc (.cells #[.bool false] 4)).alloc (.cells #[.int .i64 0] 26)) w.heap.size #[.int .i64 0] 3 from ((Blk.new w _ _).alloc _).alloc _)
  have O0 := Lib.hid (show Blk (((w.alloc (.cells #[.int .i64 0] 3)).alloc (.cells #[.bool false] 4)).alloc (.cells #[.int .i64 0] 26)) (w.heap.size + 1) #[.bool false] 4 by
    have h := Blk.new (w.alloc (.cells #[.int .i64 0] 3)) #[.bool false] 4
    simp only [World.size_alloc] at h
    exact h.alloc _)
  have E0 := Lib.hid (show Blk (((w.alloc (.cells #[.int .i64 0] 3)).alloc (.cells #[.bool false] 4)).alloc (.cells #[.int .i64 0] 26)) (w.heap.size + 1 + 1) #[.int .i64 0] 26 by
    have h := Blk.new ((w.alloc (.cells #[.int .i64 0] 3)).alloc (.cells #[.bool false] 4)) #[.int .i64 0] 26
    simp only [World.size_alloc] at h
    exact h)
  have B0 := Lib.hid (show Below w.heap.size w (((w.alloc (.cells #[.int .i64 0] 3)).alloc (.cells #[.bool false] 4)).alloc (.cells #[.int .i64 0] 26)) from ((bel_alloc1 w _).alloc (by simp) _).alloc (by simp; omega) _)
  have hd1 : decide (E = 0) = false := decide_eq_false hne
  have hd2 : (E == 0) = false := by simpa using hne
  go_enter Try.func15, Try.ntmps15
  go_upto_region 1 with fail
  generalize World.alloc (World.alloc (World.alloc w _) _) _ = W0 at M0 O0 E0 B0 ⊢
  have l1 := M0.out.lt
  obtain ⟨mb, hmb⟩ : ∃ mb, w.heap.size = mb := ⟨_, rfl⟩
  obtain ⟨ob, hob⟩ : ∃ ob, w.heap.size + 1 = ob := ⟨_, rfl⟩
  obtain ⟨eb, heb⟩ : ∃ eb, w.heap.size + 1 + 1 = eb := ⟨_, rfl⟩
  rw [heb] at E0 ⊢
  rw [hob] at O0 ⊢
  rw [show Blk W0 w.heap.size #[.int .i64 0] 3 = Blk W0 mb #[.int .i64 0] 3 by rw [hmb]] at M0
  simp only [show (Value.pointer (some ⟨w.heap.size, 0, none⟩)) = .pointer (some ⟨mb, 0, none⟩) by rw [hmb]]
  have hb12 : w.heap.size ≤ mb ∧ mb < ob ∧ ob < eb := by omega
  clear hmb hob heb l1
  go_upto_region 3 with (go_at_call 12; (with_reducible refine (ccheck_is p n c rs q m d gs E W0 (Lib.hid (hr.out.below B0.out)) (Lib.hid (hg.out.below B0.out)) hE).mono ?_); rintro e w1 ⟨rfl, hb⟩; have B1 := Lib.hid (bel_trans B0.out hb); have M1 := Lib.hid (M0.out.below hb M0.out.lt); have O1 := Lib.hid (O0.out.below hb O0.out.lt); have E1 := Lib.hid (E0.out.below hb E0.out.lt); have x1 := E1.out.one; have y1 := E1.out.frozen 0; clear hb)
  have M2 := Lib.hid (M1.out.other 0 (.int .i64 E) (show mb ≠ eb by omega))
  have O2 := Lib.hid (O1.out.other 0 (.int .i64 E) (show ob ≠ eb by omega))
  have E2 := Lib.hid (E1.out.set 0 (.int .i64 E))
  have B2 := Lib.hid (B1.out.setCell (p := ⟨eb, 0, none⟩) (by show w.heap.size ≤ eb; omega) (.int .i64 E))
  clear x1 y1
  generalize World.setCell w1 _ _ = w2 at M2 O2 E2 B2 ⊢
  have z0 := M2.out.one
  have z1 := M2.out.frozen 0
  have z2 := O2.out.one
  have z3 := O2.out.frozen 0
  have z4 : w2.cell? ⟨eb, 0, none⟩ = some (.int .i64 E) := E2.out.one
  have z5 := E2.out.frozen 0
  go_region
  have M3 := Lib.hid (show Blk ((((w2.setCell ⟨mb, 0, none⟩ (.int .i64 0)).setCell ⟨ob, 0, none⟩ (.bool false)).setCell ⟨eb, 0, none⟩ (.int .i64 E)).drew) mb #[.int .i64 0] 3 from ((M2.out.set 0 (.int .i64 0)).other 0 _ (by omega)).other 0 _ (by omega))
  have O3 := Lib.hid (show Blk ((((w2.setCell ⟨mb, 0, none⟩ (.int .i64 0)).setCell ⟨ob, 0, none⟩ (.bool false)).setCell ⟨eb, 0, none⟩ (.int .i64 E)).drew) ob #[.bool false] 4 from ((O2.out.other 0 _ (by omega)).set 0 (.bool false)).other 0 _ (by omega))
  have E3 := Lib.hid (show Blk ((((w2.setCell ⟨mb, 0, none⟩ (.int .i64 0)).setCell ⟨ob, 0, none⟩ (.bool false)).setCell ⟨eb, 0, none⟩ (.int .i64 E)).drew) eb #[.int .i64 E] 26 from ((E2.out.other 0 _ (by omega)).other 0 _ (by omega)).set 0 (.int .i64 E))
  have B3 := Lib.hid (show Below w.heap.size w ((((w2.setCell ⟨mb, 0, none⟩ (.int .i64 0)).setCell ⟨ob, 0, none⟩ (.bool false)).setCell ⟨eb, 0, none⟩ (.int .i64 E)).drew) from (((B2.out.setCell (p := ⟨mb, 0, none⟩) (by show w.heap.size ≤ mb; omega) _).setCell (p := ⟨ob, 0, none⟩) (by show w.heap.size ≤ ob; omega) _).setCell (p := ⟨eb, 0, none⟩) (by show w.heap.size ≤ eb; omega) _).drew)
  clear z0 z1 z2 z3 z4 z5
  generalize World.drew _ = w3 at M3 O3 E3 B3 ⊢
  have c0 := M3.out.one
  have c1 := O3.out.one
  have c2 := E3.out.one
  go_wp2_with fail
  refine bodyPost_ret (v := .tuple #[.int .i64 0, .bool false, .int .i64 E]) (by simp [results, Try.results15, go_sem, c0, c1, c2]) rfl ⟨rfl, B3.out⟩
set_option maxRecDepth 100000 in
set_option maxHeartbeats 8000000 in
theorem cnxt_neg (p : Option Addr) (n c : Nat) (rs : List Rl) (q : Option Addr) (m d : Nat) (gs : List Gp) (a : Int) (w : World) (hr : Hid (RulesV w p n c rs)) (hg : Hid (GapsV w q m d gs)) (hE : Hid (chkE rs gs = 0)) (h0 : a < 0) :
    Calls Try.prog 15 #[.slice p n c, .slice q m d, .int .i64 a] w fun e w' => e = .returned (.tuple #[.int .i64 0, .bool false, .int .i64 1]) ∧ Below w.heap.size w w' := by
  have M0 := Lib.hid (show Blk (((w.alloc (.cells #[.int .i64 0] 3)).alloc (.cells #[.bool false] 4)).alloc (.cells #[.int .i64 0] 26)) w.heap.size #[.int .i64 0] 3 from ((Blk.new w _ _).alloc _).alloc _)
  have O0 := Lib.hid (show Blk (((w.alloc (.cells #[.int .i64 0] 3)).alloc (.cells #[.bool false] 4)).alloc (.cells #[.int .i64 0] 26)) (w.heap.size + 1) #[.bool false] 4 by
    have h := Blk.new (w.alloc (.cells #[.int .i64 0] 3)) #[.bool false] 4
    simp only [World.size_alloc] at h
    exact h.alloc _)
  have E0 := Lib.hid (show Blk (((w.alloc (.cells #[.int .i64 0] 3)).alloc (.cells #[.bool false] 4)).alloc (.cells #[.int .i64 0] 26)) (w.heap.size + 1 + 1) #[.int .i64 0] 26 by
    have h := Blk.new ((w.alloc (.cells #[.int .i64 0] 3)).alloc (.cells #[.bool false] 4)) #[.int .i64 0] 26
    simp only [World.size_alloc] at h
    exact h)
  have B0 := Lib.hid (show Below w.heap.size w (((w.alloc (.cells #[.int .i64 0] 3)).alloc (.cells #[.bool false] 4)).alloc (.cells #[.int .i64 0] 26)) from ((bel_alloc1 w _).alloc (by simp) _).alloc (by simp; omega) _)
  have d1 : decide (a < 0) = true := decide_eq_true h0
  go_enter Try.func15, Try.ntmps15
  go_upto_region 1 with fail
  generalize World.alloc (World.alloc (World.alloc w _) _) _ = W0 at M0 O0 E0 B0 ⊢
  have l1 := M0.out.lt
  obtain ⟨mb, hmb⟩ : ∃ mb, w.heap.size = mb := ⟨_, rfl⟩
  obtain ⟨ob, hob⟩ : ∃ ob, w.heap.size + 1 = ob := ⟨_, rfl⟩
  obtain ⟨eb, heb⟩ : ∃ eb, w.heap.size + 1 + 1 = eb := ⟨_, rfl⟩
  rw [heb] at E0 ⊢
  rw [hob] at O0 ⊢
  rw [show Blk W0 w.heap.size #[.int .i64 0] 3 = Blk W0 mb #[.int .i64 0] 3 by rw [hmb]] at M0
  simp only [show (Value.pointer (some ⟨w.heap.size, 0, none⟩)) = .pointer (some ⟨mb, 0, none⟩) by rw [hmb]]
  have hb12 : w.heap.size ≤ mb ∧ mb < ob ∧ ob < eb := by omega
  clear hmb hob heb l1
  go_upto_region 2 with (go_at_call 12; (with_reducible refine (ccheck_is p n c rs q m d gs 0 W0 (Lib.hid (hr.out.below B0.out)) (Lib.hid (hg.out.below B0.out)) hE).mono ?_); rintro e w1 ⟨rfl, hb⟩; have B1 := Lib.hid (bel_trans B0.out hb); have M1 := Lib.hid (M0.out.below hb M0.out.lt); have O1 := Lib.hid (O0.out.below hb O0.out.lt); have E1 := Lib.hid (E0.out.below hb E0.out.lt); have x1 := E1.out.one; have y1 := E1.out.frozen 0; clear hb)
  have M2 := Lib.hid (M1.out.other 0 (.int .i64 0) (show mb ≠ eb by omega))
  have O2 := Lib.hid (O1.out.other 0 (.int .i64 0) (show ob ≠ eb by omega))
  have E2 := Lib.hid (E1.out.set 0 (.int .i64 0))
  have B2 := Lib.hid (B1.out.setCell (p := ⟨eb, 0, none⟩) (by show w.heap.size ≤ eb; omega) (.int .i64 0))
  clear x1 y1
  generalize World.setCell w1 _ _ = w2 at M2 O2 E2 B2 ⊢
  have z0 := M2.out.one
  have z1 := M2.out.frozen 0
  have z2 := O2.out.one
  have z3 := O2.out.frozen 0
  have z4 : w2.cell? ⟨eb, 0, none⟩ = some (.int .i64 0) := E2.out.one
  have z5 := E2.out.frozen 0
  go_wp2_with fail
  have M3 := Lib.hid (show Blk ((((w2.setCell ⟨mb, 0, none⟩ (.int .i64 0)).setCell ⟨ob, 0, none⟩ (.bool false)).setCell ⟨eb, 0, none⟩ (.int .i64 1))) mb #[.int .i64 0] 3 from ((M2.out.set 0 (.int .i64 0)).other 0 _ (by omega)).other 0 _ (by omega))
  have O3 := Lib.hid (show Blk ((((w2.setCell ⟨mb, 0, none⟩ (.int .i64 0)).setCell ⟨ob, 0, none⟩ (.bool false)).setCell ⟨eb, 0, none⟩ (.int .i64 1))) ob #[.bool false] 4 from ((O2.out.other 0 _ (by omega)).set 0 (.bool false)).other 0 _ (by omega))
  have E3 := Lib.hid (show Blk ((((w2.setCell ⟨mb, 0, none⟩ (.int .i64 0)).setCell ⟨ob, 0, none⟩ (.bool false)).setCell ⟨eb, 0, none⟩ (.int .i64 1))) eb #[.int .i64 1] 26 from ((E2.out.other 0 _ (by omega)).other 0 _ (by omega)).set 0 (.int .i64 1))
  have B3 := Lib.hid (show Below w.heap.size w ((((w2.setCell ⟨mb, 0, none⟩ (.int .i64 0)).setCell ⟨ob, 0, none⟩ (.bool false)).setCell ⟨eb, 0, none⟩ (.int .i64 1))) from ((B2.out.setCell (p := ⟨mb, 0, none⟩) (by show w.heap.size ≤ mb; omega) _).setCell (p := ⟨ob, 0, none⟩) (by show w.heap.size ≤ ob; omega) _).setCell (p := ⟨eb, 0, none⟩) (by show w.heap.size ≤ eb; omega) _)
  clear z0 z1 z2 z3 z4 z5
  generalize World.setCell (World.setCell (World.setCell w2 _ _) _ _) _ _ = w3 at M3 O3 E3 B3 ⊢
  have c0 := M3.out.one
  have c1 := O3.out.one
  have c2 := E3.out.one
  refine bodyPost_ret (v := .tuple #[.int .i64 0, .bool false, .int .i64 1]) (by simp [results, Try.results15, go_sem, c0, c1, c2]) rfl ⟨rfl, B3.out⟩
set_option maxRecDepth 100000 in
set_option maxHeartbeats 8000000 in
theorem cnxt_end (p : Option Addr) (n c : Nat) (rs : List Rl) (q : Option Addr) (m d : Nat) (gs : List Gp) (a : Int) (w : World) (hr : Hid (RulesV w p n c rs)) (hg : Hid (GapsV w q m d gs)) (hE : Hid (chkE rs gs = 0)) (h0 : 0 ≤ a) (h2 : 2097152 < a) :
    Calls Try.prog 15 #[.slice p n c, .slice q m d, .int .i64 a] w fun e w' => e = .returned (.tuple #[.int .i64 0, .bool false, .int .i64 1]) ∧ Below w.heap.size w w' := by
  have M0 := Lib.hid (show Blk (((w.alloc (.cells #[.int .i64 0] 3)).alloc (.cells #[.bool false] 4)).alloc (.cells #[.int .i64 0] 26)) w.heap.size #[.int .i64 0] 3 from ((Blk.new w _ _).alloc _).alloc _)
  have O0 := Lib.hid (show Blk (((w.alloc (.cells #[.int .i64 0] 3)).alloc (.cells #[.bool false] 4)).alloc (.cells #[.int .i64 0] 26)) (w.heap.size + 1) #[.bool false] 4 by
    have h := Blk.new (w.alloc (.cells #[.int .i64 0] 3)) #[.bool false] 4
    simp only [World.size_alloc] at h
    exact h.alloc _)
  have E0 := Lib.hid (show Blk (((w.alloc (.cells #[.int .i64 0] 3)).alloc (.cells #[.bool false] 4)).alloc (.cells #[.int .i64 0] 26)) (w.heap.size + 1 + 1) #[.int .i64 0] 26 by
    have h := Blk.new ((w.alloc (.cells #[.int .i64 0] 3)).alloc (.cells #[.bool false] 4)) #[.int .i64 0] 26
    simp only [World.size_alloc] at h
    exact h)
  have B0 := Lib.hid (show Below w.heap.size w (((w.alloc (.cells #[.int .i64 0] 3)).alloc (.cells #[.bool false] 4)).alloc (.cells #[.int .i64 0] 26)) from ((bel_alloc1 w _).alloc (by simp) _).alloc (by simp; omega) _)
  have d1 : decide (a < 0) = false := decide_eq_false (by omega)
  have d3 : decide (2097152 < a) = true := decide_eq_true h2
  go_enter Try.func15, Try.ntmps15
  go_upto_region 1 with fail
  generalize World.alloc (World.alloc (World.alloc w _) _) _ = W0 at M0 O0 E0 B0 ⊢
  have l1 := M0.out.lt
  obtain ⟨mb, hmb⟩ : ∃ mb, w.heap.size = mb := ⟨_, rfl⟩
  obtain ⟨ob, hob⟩ : ∃ ob, w.heap.size + 1 = ob := ⟨_, rfl⟩
  obtain ⟨eb, heb⟩ : ∃ eb, w.heap.size + 1 + 1 = eb := ⟨_, rfl⟩
  rw [heb] at E0 ⊢
  rw [hob] at O0 ⊢
  rw [show Blk W0 w.heap.size #[.int .i64 0] 3 = Blk W0 mb #[.int .i64 0] 3 by rw [hmb]] at M0
  simp only [show (Value.pointer (some ⟨w.heap.size, 0, none⟩)) = .pointer (some ⟨mb, 0, none⟩) by rw [hmb]]
  have hb12 : w.heap.size ≤ mb ∧ mb < ob ∧ ob < eb := by omega
  clear hmb hob heb l1
  go_upto_region 2 with (go_at_call 12; (with_reducible refine (ccheck_is p n c rs q m d gs 0 W0 (Lib.hid (hr.out.below B0.out)) (Lib.hid (hg.out.below B0.out)) hE).mono ?_); rintro e w1 ⟨rfl, hb⟩; have B1 := Lib.hid (bel_trans B0.out hb); have M1 := Lib.hid (M0.out.below hb M0.out.lt); have O1 := Lib.hid (O0.out.below hb O0.out.lt); have E1 := Lib.hid (E0.out.below hb E0.out.lt); have x1 := E1.out.one; have y1 := E1.out.frozen 0; clear hb)
  have M2 := Lib.hid (M1.out.other 0 (.int .i64 0) (show mb ≠ eb by omega))
  have O2 := Lib.hid (O1.out.other 0 (.int .i64 0) (show ob ≠ eb by omega))
  have E2 := Lib.hid (E1.out.set 0 (.int .i64 0))
  have B2 := Lib.hid (B1.out.setCell (p := ⟨eb, 0, none⟩) (by show w.heap.size ≤ eb; omega) (.int .i64 0))
  clear x1 y1
  generalize World.setCell w1 _ _ = w2 at M2 O2 E2 B2 ⊢
  have z0 := M2.out.one
  have z1 := M2.out.frozen 0
  have z2 := O2.out.one
  have z3 := O2.out.frozen 0
  have z4 : w2.cell? ⟨eb, 0, none⟩ = some (.int .i64 0) := E2.out.one
  have z5 := E2.out.frozen 0
  go_wp2_with fail
  have M3 := Lib.hid (show Blk ((((w2.setCell ⟨mb, 0, none⟩ (.int .i64 0)).setCell ⟨ob, 0, none⟩ (.bool false)).setCell ⟨eb, 0, none⟩ (.int .i64 1))) mb #[.int .i64 0] 3 from ((M2.out.set 0 (.int .i64 0)).other 0 _ (by omega)).other 0 _ (by omega))
  have O3 := Lib.hid (show Blk ((((w2.setCell ⟨mb, 0, none⟩ (.int .i64 0)).setCell ⟨ob, 0, none⟩ (.bool false)).setCell ⟨eb, 0, none⟩ (.int .i64 1))) ob #[.bool false] 4 from ((O2.out.other 0 _ (by omega)).set 0 (.bool false)).other 0 _ (by omega))
  have E3 := Lib.hid (show Blk ((((w2.setCell ⟨mb, 0, none⟩ (.int .i64 0)).setCell ⟨ob, 0, none⟩ (.bool false)).setCell ⟨eb, 0, none⟩ (.int .i64 1))) eb #[.int .i64 1] 26 from ((E2.out.other 0 _ (by omega)).other 0 _ (by omega)).set 0 (.int .i64 1))
  have B3 := Lib.hid (show Below w.heap.size w ((((w2.setCell ⟨mb, 0, none⟩ (.int .i64 0)).setCell ⟨ob, 0, none⟩ (.bool false)).setCell ⟨eb, 0, none⟩ (.int .i64 1))) from ((B2.out.setCell (p := ⟨mb, 0, none⟩) (by show w.heap.size ≤ mb; omega) _).setCell (p := ⟨ob, 0, none⟩) (by show w.heap.size ≤ ob; omega) _).setCell (p := ⟨eb, 0, none⟩) (by show w.heap.size ≤ eb; omega) _)
  clear z0 z1 z2 z3 z4 z5
  generalize World.setCell (World.setCell (World.setCell w2 _ _) _ _) _ _ = w3 at M3 O3 E3 B3 ⊢
  have c0 := M3.out.one
  have c1 := O3.out.one
  have c2 := E3.out.one
  refine bodyPost_ret (v := .tuple #[.int .i64 0, .bool false, .int .i64 1]) (by simp [results, Try.results15, go_sem, c0, c1, c2]) rfl ⟨rfl, B3.out⟩
set_option maxRecDepth 100000 in
set_option maxHeartbeats 8000000 in
theorem cnxt_run (p : Option Addr) (n c : Nat) (rs : List Rl) (q : Option Addr) (m d : Nat) (gs : List Gp) (a : Int) (w : World) (hr : Hid (RulesV w p n c rs)) (hg : Hid (GapsV w q m d gs)) (hE : Hid (chkE rs gs = 0)) (h0 : 0 ≤ a) (h2 : a ≤ 2097152) :
    Calls Try.prog 15 #[.slice p n c, .slice q m d, .int .i64 a] w fun e w' => e = .returned (.tuple #[.int .i64 (nxtM rs gs a), .bool (nxtB rs gs a), .int .i64 (nxtE rs gs a)]) ∧ Below w.heap.size w w' := by
  have M0 := Lib.hid (show Blk (((w.alloc (.cells #[.int .i64 0] 3)).alloc (.cells #[.bool false] 4)).alloc (.cells #[.int .i64 0] 26)) w.heap.size #[.int .i64 0] 3 from ((Blk.new w _ _).alloc _).alloc _)
  have O0 := Lib.hid (show Blk (((w.alloc (.cells #[.int .i64 0] 3)).alloc (.cells #[.bool false] 4)).alloc (.cells #[.int .i64 0] 26)) (w.heap.size + 1) #[.bool false] 4 by
    have h := Blk.new (w.alloc (.cells #[.int .i64 0] 3)) #[.bool false] 4
    simp only [World.size_alloc] at h
    exact h.alloc _)
  have E0 := Lib.hid (show Blk (((w.alloc (.cells #[.int .i64 0] 3)).alloc (.cells #[.bool false] 4)).alloc (.cells #[.int .i64 0] 26)) (w.heap.size + 1 + 1) #[.int .i64 0] 26 by
    have h := Blk.new ((w.alloc (.cells #[.int .i64 0] 3)).alloc (.cells #[.bool false] 4)) #[.int .i64 0] 26
    simp only [World.size_alloc] at h
    exact h)
  have B0 := Lib.hid (show Below w.heap.size w (((w.alloc (.cells #[.int .i64 0] 3)).alloc (.cells #[.bool false] 4)).alloc (.cells #[.int .i64 0] 26)) from ((bel_alloc1 w _).alloc (by simp) _).alloc (by simp; omega) _)
  have d1 : decide (a < 0) = false := decide_eq_false (by omega)
  have d3 : decide (2097152 < a) = false := decide_eq_false (by omega)
  have HV := Lib.hid (chk_valid hE.out)
  refine (callsIn_wide (n := 5)).1 (callsIn_of_wp_marks Try.func15 rfl trivial ?_ rfl)
  simp only [Try.ntmps15, List.size_toArray, List.length_cons, List.length_nil, Nat.reduceAdd, Nat.reduceSub, Array.replicate_succ, Array.replicate_zero, List.push_toArray, List.append_toArray, List.nil_append, List.cons_append]
  refine wpIn_wide.2 ?_
  refine Code.wp_mono (Q := noPanic _) noPanic_le ?_
  go_upto_region 1 with fail
  generalize World.alloc (World.alloc (World.alloc w _) _) _ = W0 at M0 O0 E0 B0 ⊢
  have l1 := M0.out.lt
  obtain ⟨mb, hmb⟩ : ∃ mb, w.heap.size = mb := ⟨_, rfl⟩
  obtain ⟨ob, hob⟩ : ∃ ob, w.heap.size + 1 = ob := ⟨_, rfl⟩
  obtain ⟨eb, heb⟩ : ∃ eb, w.heap.size + 1 + 1 = eb := ⟨_, rfl⟩
  rw [heb] at E0 ⊢
  rw [hob] at O0 ⊢
  rw [show Blk W0 w.heap.size #[.int .i64 0] 3 = Blk W0 mb #[.int .i64 0] 3 by rw [hmb]] at M0
  simp only [show (Value.pointer (some ⟨w.heap.size, 0, none⟩)) = .pointer (some ⟨mb, 0, none⟩) by rw [hmb]]
  have hb12 : w.heap.size ≤ mb ∧ mb < ob ∧ ob < eb := by omega
  clear hmb hob heb l1
  go_upto_region 2 with (go_at_call 12; (with_reducible refine (ccheck_is p n c rs q m d gs 0 W0 (Lib.hid (hr.out.below B0.out)) (Lib.hid (hg.out.below B0.out)) hE).mono ?_); rintro e w1 ⟨rfl, hb⟩; have B1 := Lib.hid (bel_trans B0.out hb); have M1 := Lib.hid (M0.out.below hb M0.out.lt); have O1 := Lib.hid (O0.out.below hb O0.out.lt); have E1 := Lib.hid (E0.out.below hb E0.out.lt); have x1 := E1.out.one; have y1 := E1.out.frozen 0; clear hb)
  have M2 := Lib.hid (M1.out.other 0 (.int .i64 0) (show mb ≠ eb by omega))
  have O2 := Lib.hid (O1.out.other 0 (.int .i64 0) (show ob ≠ eb by omega))
  have E2 := Lib.hid (E1.out.set 0 (.int .i64 0))
  have B2 := Lib.hid (B1.out.setCell (p := ⟨eb, 0, none⟩) (by show w.heap.size ≤ eb; omega) (.int .i64 0))
  clear x1 y1
  generalize World.setCell w1 _ _ = w2 at M2 O2 E2 B2 ⊢
  have z0 := M2.out.one
  have z1 := M2.out.frozen 0
  have z2 := O2.out.one
  have z3 := O2.out.frozen 0
  have z4 : w2.cell? ⟨eb, 0, none⟩ = some (.int .i64 0) := E2.out.one
  have z5 := E2.out.frozen 0
  obtain ⟨ib, hib⟩ : ∃ ib, w2.heap.size = ib := ⟨_, rfl⟩
  have HIB := Lib.hid hib
  go_wp2_with (go_at_call 19; (with_reducible refine (cdep_fn p n c q m d a ib _ hib).mono ?_); rintro e' w' ⟨rfl, rfl⟩)
  have R3 := Lib.hid (show Blk (((w2.alloc (.cells #[.slice p n c] 22)).alloc (.cells #[.slice q m d] 23)).alloc (.cells #[.int .i64 a] 3)) ib #[.slice p n c] 22 by rw [← hib]; exact ((Blk.new w2 _ _).alloc _).alloc _)
  have G3 := Lib.hid (show Blk (((w2.alloc (.cells #[.slice p n c] 22)).alloc (.cells #[.slice q m d] 23)).alloc (.cells #[.int .i64 a] 3)) (ib + 1) #[.slice q m d] 23 by
    have h := Blk.new (w2.alloc (.cells #[.slice p n c] 22)) #[.slice q m d] 23
    rw [World.size_alloc, hib] at h
    exact h.alloc _)
  have F3 := Lib.hid (show Blk (((w2.alloc (.cells #[.slice p n c] 22)).alloc (.cells #[.slice q m d] 23)).alloc (.cells #[.int .i64 a] 3)) (ib + 2) #[.int .i64 a] 3 by
    have h := Blk.new ((w2.alloc (.cells #[.slice p n c] 22)).alloc (.cells #[.slice q m d] 23)) #[.int .i64 a] 3
    rw [World.size_alloc, World.size_alloc, hib] at h
    exact h)
  have MA := Lib.hid (((M2.out.alloc (.cells #[.slice p n c] 22)).alloc (.cells #[.slice q m d] 23)).alloc (.cells #[.int .i64 a] 3))
  have OA := Lib.hid (((O2.out.alloc (.cells #[.slice p n c] 22)).alloc (.cells #[.slice q m d] 23)).alloc (.cells #[.int .i64 a] 3))
  have EA := Lib.hid (((E2.out.alloc (.cells #[.slice p n c] 22)).alloc (.cells #[.slice q m d] 23)).alloc (.cells #[.int .i64 a] 3))
  have BA := Lib.hid (show Below w.heap.size w (((w2.alloc (.cells #[.slice p n c] 22)).alloc (.cells #[.slice q m d] 23)).alloc (.cells #[.int .i64 a] 3)) from bel_trans B2.out (((bel_alloc1 w2 _).alloc (by simp) _).alloc (by simp; omega) _))
  have hs3 : ib + 3 ≤ (((w2.alloc (.cells #[.slice p n c] 22)).alloc (.cells #[.slice q m d] 23)).alloc (.cells #[.int .i64 a] 3)).heap.size := by simp only [World.size_alloc]; omega
  have hei : eb < ib := by rw [← hib]; exact E2.out.lt
  clear z0 z1 z2 z3 z4 z5 hib
  generalize World.alloc (World.alloc (World.alloc w2 _) _) _ = w3 at R3 G3 F3 MA OA EA BA hs3 ⊢
  clear M2 O2 E2 B2 M1 O1 E1 B1 M0 O0 E0 B0
  refine (wpIn_wide (n := 5)).1 ?_
  refine wpIn_rangeFunc_ownX rfl (by omega) (gf := 22) (lb := #[.pointer (some ⟨ib, 0, none⟩), .pointer (some ⟨ib + 2, 0, none⟩), .pointer (some ⟨ib + 1, 0, none⟩)]) rfl trivial (enters_of Try.func22 (by kernel_rfl) rfl)
    (cdep_seq p n c rs q m d gs a 4 (by omega) w.heap.size ib w w3 rfl BA (by omega) hs3 R3.out.one F3.out.one G3.out.one hr hg (Lib.hid HV.out.1) (by have := HV.out.2.1; have := hr.out.len; omega) (by have := HV.out.2.2; have := hg.out.len; omega) h0 (by omega))
    (fun h k => h.trans k) (KpD.put (by omega) hs3) (Below.refl _ _) (fun _ => rfl)
    (fun pre W => pre = [] ∧ Blk W mb #[.int .i64 0] 3 ∧ Blk W ob #[.bool false] 4 ∧ Blk W eb #[.int .i64 0] 26 ∧ Below w.heap.size w W)
    (fun c' xs W => c' = .ret ∧ ∃ x, xs = [x] ∧ Blk W mb #[.int .i64 x] 3 ∧ Blk W ob #[.bool true] 4 ∧ Blk W eb #[.int .i64 0] 26 ∧ Below w.heap.size w W)
    ?hI ?hIx ?h0 (fun x a' W => a' = { tmps := #[.slice p n c, .slice q m d, .int .i64 a, undef, undef, undef, .pointer (some ⟨mb, 0, none⟩), .pointer (some ⟨ob, 0, none⟩), .pointer (some ⟨eb, 0, none⟩), .int .i64 x, .slice p n c, .slice q m d, .int .i64 0, .int .i64 0, .bool false, undef, .int .i64 a, .bool false, .bool false, .int .i64 a, .bool false, .bool false, .slice p n c, .slice q m d, .int .i64 a, .func (.func 22) #[] #[.pointer (some ⟨ib, 0, none⟩), .pointer (some ⟨ib + 2, 0, none⟩), .pointer (some ⟨ib + 1, 0, none⟩)], .int .i64 x, undef], defers := [] }) ?hAx ?assign ?body ?done ?stop
  case hI => exact (pure_ownX _).and ((blk_ownX (fun _ => #[.int .i64 0]) (by omega)).and ((blk_ownX (fun _ => #[.bool false]) (by omega)).and ((blk_ownX (fun _ => #[.int .i64 0]) (by omega)).and (below_ownX (Nat.le_refl _) (by omega) (by omega)))))
  case hIx =>
    intro c' s X Y row h hg hr
    have kb : ∀ {u : Nat} {v : Value} {t : TypeId}, u < w3.heap.size + 2 → Blk X u #[v] t → Blk Y u #[v] t := fun {u v t} h1 h2 => blk_ownX (β := Unit) (B := w3.heap.size) (m := 1) (fun _ => #[v]) h1 () X Y row h2 hg hr
    obtain ⟨rfl, x, e, h1, h2, h3, hb⟩ := h
    exact ⟨rfl, x, e, kb (by omega) h1, kb (by omega) h2, kb (by omega) h3, below_ownX (β := Unit) (B := w3.heap.size) (n0 := w3.heap.size + 2) (m := 1) (Nat.le_refl _) (by omega) (by omega) () X Y row hb hg hr⟩
  case h0 => exact ⟨rfl, MA.out, OA.out, EA.out, BA.out⟩
  case hAx => exact fun x a' => pure_ownX _
  case assign =>
    rintro lo pre x W K hi hsz hK
    gi_wp2
    exact hK _ _ (KeepsFrom.refl _ _) ⟨⟨Below.refl _ _, fun _ _ _ => rfl⟩, fun _ _ _ => rfl⟩ hi rfl
  case body =>
    rintro lo pre x a' W hl ⟨rfl, hM, hO, hE0, hB⟩ rfl hlt hsz
    have HM := Lib.hid hM
    have HO := Lib.hid hO
    have HE0 := Lib.hid hE0
    have HBW := Lib.hid hB
    have z0 := HM.out.one
    have z1 := HM.out.frozen 0
    have z2 := HO.out.one
    have z3 := HO.out.frozen 0
    have z4 := HE0.out.one
    have z5 := HE0.out.frozen 0
    clear hM hO hE0 hB hl hlt hsz
    gi_wp2
    have M3 := Lib.hid (show Blk ((((W.setCell ⟨mb, 0, none⟩ (.int .i64 x)).setCell ⟨ob, 0, none⟩ (.bool true)).setCell ⟨eb, 0, none⟩ (.int .i64 0))) mb #[.int .i64 x] 3 from ((HM.out.set 0 (.int .i64 x)).other 0 _ (by omega)).other 0 _ (by omega))
    have O3 := Lib.hid (show Blk ((((W.setCell ⟨mb, 0, none⟩ (.int .i64 x)).setCell ⟨ob, 0, none⟩ (.bool true)).setCell ⟨eb, 0, none⟩ (.int .i64 0))) ob #[.bool true] 4 from ((HO.out.other 0 _ (by omega)).set 0 (.bool true)).other 0 _ (by omega))
    have E3 := Lib.hid (show Blk ((((W.setCell ⟨mb, 0, none⟩ (.int .i64 x)).setCell ⟨ob, 0, none⟩ (.bool true)).setCell ⟨eb, 0, none⟩ (.int .i64 0))) eb #[.int .i64 0] 26 from ((HE0.out.other 0 _ (by omega)).other 0 _ (by omega)).set 0 (.int .i64 0))
    have B3 := Lib.hid (show Below w.heap.size w ((((W.setCell ⟨mb, 0, none⟩ (.int .i64 x)).setCell ⟨ob, 0, none⟩ (.bool true)).setCell ⟨eb, 0, none⟩ (.int .i64 0))) from ((HBW.out.setCell (p := ⟨mb, 0, none⟩) (by show w.heap.size ≤ mb; omega) _).setCell (p := ⟨ob, 0, none⟩) (by show w.heap.size ≤ ob; omega) _).setCell (p := ⟨eb, 0, none⟩) (by show w.heap.size ≤ eb; omega) _)
    exact ⟨(((KeepsOthers.setCell _ _ _).trans (KeepsOthers.setCell _ _ _)).trans (KeepsOthers.setCell _ _ _)).from _, rfl, x, rfl, M3.out, O3.out, E3.out, B3.out⟩
  case done =>
    rintro D' xs W hD rfl ⟨hnil, hM, hO, hE0, hB⟩ hK
    have HNI := Lib.hid hnil
    have HM := Lib.hid hM
    have HO := Lib.hid hO
    have HE0 := Lib.hid hE0
    have HBW := Lib.hid hB
    have HKD := Lib.hid hK
    have z0 := HM.out.one
    have z1 := HM.out.frozen 0
    have z2 := HO.out.one
    have z3 := HO.out.frozen 0
    have z4 := HE0.out.one
    have z5 := HE0.out.frozen 0
    clear hM hO hE0 hB hK hnil
    go_wp2_with fail
    have M3 := Lib.hid (show Blk ((((W.setCell ⟨mb, 0, none⟩ (.int .i64 0)).setCell ⟨ob, 0, none⟩ (.bool false)).setCell ⟨eb, 0, none⟩ (.int .i64 0))) mb #[.int .i64 0] 3 from ((HM.out.set 0 (.int .i64 0)).other 0 _ (by omega)).other 0 _ (by omega))
    have O3 := Lib.hid (show Blk ((((W.setCell ⟨mb, 0, none⟩ (.int .i64 0)).setCell ⟨ob, 0, none⟩ (.bool false)).setCell ⟨eb, 0, none⟩ (.int .i64 0))) ob #[.bool false] 4 from ((HO.out.other 0 _ (by omega)).set 0 (.bool false)).other 0 _ (by omega))
    have E3 := Lib.hid (show Blk ((((W.setCell ⟨mb, 0, none⟩ (.int .i64 0)).setCell ⟨ob, 0, none⟩ (.bool false)).setCell ⟨eb, 0, none⟩ (.int .i64 0))) eb #[.int .i64 0] 26 from ((HE0.out.other 0 _ (by omega)).other 0 _ (by omega)).set 0 (.int .i64 0))
    have B3 := Lib.hid (show Below w.heap.size w ((((W.setCell ⟨mb, 0, none⟩ (.int .i64 0)).setCell ⟨ob, 0, none⟩ (.bool false)).setCell ⟨eb, 0, none⟩ (.int .i64 0))) from ((HBW.out.setCell (p := ⟨mb, 0, none⟩) (by show w.heap.size ≤ mb; omega) _).setCell (p := ⟨ob, 0, none⟩) (by show w.heap.size ≤ ob; omega) _).setCell (p := ⟨eb, 0, none⟩) (by show w.heap.size ≤ eb; omega) _)
    have HKW : ((((W.setCell ⟨mb, 0, none⟩ (.int .i64 0)).setCell ⟨ob, 0, none⟩ (.bool false)).setCell ⟨eb, 0, none⟩ (.int .i64 0))).heap[D']? = some (.deferred (some [])) := (Below.heap_setCell _ ⟨eb, 0, none⟩ _ D' (by show D' ≠ eb; omega)).trans ((Below.heap_setCell _ ⟨ob, 0, none⟩ _ D' (by show D' ≠ ob; omega)).trans ((Below.heap_setCell _ ⟨mb, 0, none⟩ _ D' (by show D' ≠ mb; omega)).trans HKD.out))
    clear z0 z1 z2 z3 z4 z5
    generalize World.setCell (World.setCell (World.setCell W _ _) _ _) _ _ = W5 at M3 O3 E3 B3 HKW ⊢
    refine ⟨by simp, .inl ⟨_, _, rfl, run_takeDeferred HKW, ?_⟩⟩
    have e1 := cell_kept M3.out.one (grownBy_putObj' _ D' (.deferred none)) (fun r e => by cases e; exact ⟨_, HKW, rfl⟩)
    have e2 := cell_kept O3.out.one (grownBy_putObj' _ D' (.deferred none)) (fun r e => by cases e; exact ⟨_, HKW, rfl⟩)
    have e3 := cell_kept E3.out.one (grownBy_putObj' _ D' (.deferred none)) (fun r e => by cases e; exact ⟨_, HKW, rfl⟩)
    have hNE : nxtE rs gs a = 0 := nxtE_ok hE.out (by unfold farB; rw [d1, d3]; rfl)
    have hNM := nxt_none hNE HNI.out
    refine ⟨.tuple #[.int .i64 0, .bool false, .int .i64 0], ?_, by rw [hNE, hNM.1, hNM.2], B3.out.trans (belowK_b (w := w) (Nat.le_refl _) _ D' _ _ (by omega) HKW rfl rfl)⟩
    simp [results, Try.results15, go_sem, e1, e2, e3]
  case stop =>
    rintro D' c' xs W hD hpre ⟨rfl, x, rfl, hM, hO, hE0, hB⟩ hK
    have M3 := Lib.hid hM
    have O3 := Lib.hid hO
    have E3 := Lib.hid hE0
    have B3 := Lib.hid hB
    have HPR := Lib.hid hpre
    have HKW := hK
    clear hM hO hE0 hB hK hpre
    gi_wp2
    refine ⟨by simp, .inl ⟨_, _, rfl, run_takeDeferred HKW, ?_⟩⟩
    have e1 := cell_kept M3.out.one (grownBy_putObj' _ D' (.deferred none)) (fun r e => by cases e; exact ⟨_, HKW, rfl⟩)
    have e2 := cell_kept O3.out.one (grownBy_putObj' _ D' (.deferred none)) (fun r e => by cases e; exact ⟨_, HKW, rfl⟩)
    have e3 := cell_kept E3.out.one (grownBy_putObj' _ D' (.deferred none)) (fun r e => by cases e; exact ⟨_, HKW, rfl⟩)
    have hNE : nxtE rs gs a = 0 := nxtE_ok hE.out (by unfold farB; rw [d1, d3]; rfl)
    have hNM : nxtM rs gs a = x ∧ nxtB rs gs a = true := by
      obtain ⟨rest, hrest⟩ := HPR.out
      exact nxt_some hNE (l := rest) hrest.symm
    refine ⟨.tuple #[.int .i64 x, .bool true, .int .i64 0], ?_, by rw [hNE, hNM.1, hNM.2], B3.out.trans (belowK_b (w := w) (Nat.le_refl _) _ D' _ _ (by omega) HKW rfl rfl)⟩
    simp [results, Try.results15, go_sem, e1, e2, e3]
theorem cnxt_is (p : Option Addr) (n c : Nat) (rs : List Rl) (q : Option Addr) (m d : Nat) (gs : List Gp) (a : Int) (w : World) (hr : Hid (RulesV w p n c rs)) (hg : Hid (GapsV w q m d gs)) : Calls Try.prog 15 #[.slice p n c, .slice q m d, .int .i64 a] w fun e w' => e = .returned (.tuple #[.int .i64 (nxtM rs gs a), .bool (nxtB rs gs a), .int .i64 (nxtE rs gs a)]) ∧ Below w.heap.size w w' := by
  have nil : ∀ (E : Int), nxtE rs gs a = E → ¬ E = 0 → (Calls Try.prog 15 #[.slice p n c, .slice q m d, .int .i64 a] w fun e w' => e = .returned (.tuple #[.int .i64 0, .bool false, .int .i64 E]) ∧ Below w.heap.size w w') → Calls Try.prog 15 #[.slice p n c, .slice q m d, .int .i64 a] w fun e w' => e = .returned (.tuple #[.int .i64 (nxtM rs gs a), .bool (nxtB rs gs a), .int .i64 (nxtE rs gs a)]) ∧ Below w.heap.size w w' := fun E h1 h2 h => h.mono (by
    rintro e w' ⟨rfl, hb⟩
    have h3 := nxt_nil (rs := rs) (gs := gs) (a := a) (by rw [h1]; exact h2)
    exact ⟨by rw [h1, h3.1, h3.2], hb⟩)
  by_cases hE : chkE rs gs = 0
  · by_cases h0 : a < 0
    · exact nil 1 (nxtE_bad hE (by unfold farB; simp [h0])) (by omega) (cnxt_neg p n c rs q m d gs a w hr hg (Lib.hid hE) h0)
    by_cases h2 : 2097152 < a
    · exact nil 1 (nxtE_bad hE (by unfold farB; simp [h2])) (by omega) (cnxt_end p n c rs q m d gs a w hr hg (Lib.hid hE) (by omega) h2)
    exact cnxt_run p n c rs q m d gs a w hr hg (Lib.hid hE) (by omega) (by omega)
  · exact nil _ (nxtE_chk hE) hE (cnxt_chk p n c rs q m d gs a w hr hg _ (Lib.hid rfl) hE)
end Go.Proofs.Ytilokkkodocoiaa
