/- Package calendar: Moments. -/
import Derived.Test.YtilokkkodocoiaaCalInt
import Derived.BigRegion
namespace Go.Proofs.Ytilokkkodocoiaa
open Go.RowKit Go.Shelf
set_option linter.unusedVariables false
set_option linter.unusedSimpArgs false
attribute [local go_sem] Oper.semAt_some

def badB (a b : Int) : Bool := decide (a < 0) || decide (b < a) || decide (2097152 < b)
def momE (rs : List Rl) (gs : List Gp) (a b : Int) : Int := if chkE rs gs = 0 then (if badB a b = true then 1 else if 2000 < (momL rs gs a b).length then 2 else 0) else chkE rs gs
def momR (rs : List Rl) (gs : List Gp) (a b : Int) : List Int := if momE rs gs a b = 0 then momL rs gs a b else []
section
variable {rs : List Rl} {gs : List Gp} {a b : Int}
theorem momE_chk (h : chkE rs gs ≠ 0) : momE rs gs a b = chkE rs gs := if_neg h
theorem momE_bad (h : chkE rs gs = 0) (k : badB a b = true) : momE rs gs a b = 1 := by unfold momE; rw [if_pos h, if_pos k]
theorem momE_big (h : chkE rs gs = 0) (k : badB a b = false) (l : 2000 < (momL rs gs a b).length) : momE rs gs a b = 2 := by unfold momE; rw [if_pos h, k, if_neg (by simp), if_pos l]
theorem momE_ok (h : chkE rs gs = 0) (k : badB a b = false) (l : (momL rs gs a b).length ≤ 2000) : momE rs gs a b = 0 := by unfold momE; rw [if_pos h, k, if_neg (by simp), if_neg (by omega)]
theorem momR_nil (h : momE rs gs a b ≠ 0) : momR rs gs a b = [] := if_neg h
theorem momR_ok (h : momE rs gs a b = 0) : momR rs gs a b = momL rs gs a b := if_pos h
end
theorem takeWhile_cut {α : Type} {p : α → Bool} : ∀ {pre : List α} {x : α} {rest : List α}, (∀ t ∈ pre, p t = true) → p x = false → (pre ++ x :: rest).takeWhile p = pre
  | [], x, rest, _, hx => by rw [List.nil_append, List.takeWhile_cons, hx]; rfl
  | y :: pre, x, rest, hp, hx => by rw [List.cons_append, List.takeWhile_cons, hp y List.mem_cons_self, if_pos rfl, takeWhile_cut (fun t ht => hp t (List.mem_cons_of_mem _ ht)) hx]
theorem takeWhile_all {α : Type} {p : α → Bool} : ∀ {l : List α}, (∀ t ∈ l, p t = true) → l.takeWhile p = l
  | [], _ => rfl
  | y :: l, hp => by rw [List.takeWhile_cons, hp y List.mem_cons_self, if_pos rfl, takeWhile_all (fun t ht => hp t (List.mem_cons_of_mem _ ht))]
theorem takeWhile_more {α : Type} {p : α → Bool} : ∀ {pre rest : List α}, (∀ t ∈ pre, p t = true) → pre.length ≤ ((pre ++ rest).takeWhile p).length
  | [], _, _ => by simp
  | y :: pre, rest, hp => by
    rw [List.cons_append, List.takeWhile_cons, hp y List.mem_cons_self, if_pos rfl, List.length_cons, List.length_cons]
    have := takeWhile_more (rest := rest) (fun t ht => hp t (List.mem_cons_of_mem y ht))
    omega
/-- what must hold at an end, and no panic -/
def noPanic (Q : Exit → Act → World → Prop) : Exit → Act → World → Prop
  | .panic _, _, _ => False
  | e, a, w => Q e a w
theorem noPanic_le {Q : Exit → Act → World → Prop} : ∀ e a w, noPanic Q e a w → Q e a w := fun e a w h => by
  cases e <;> first | exact h | exact h.elim
theorem ret_leafM {F : Fence} {n : Nat} {P : Program} {fn : Func} {R : Ending → World → Prop} {a : Act} {w : World} {v : Value} (hr : (results fn a.tmps).run P w = .ok v w) (hd : a.defers = []) (hR : R (.returned v) w) : noPanic (bodyPostM F n P fn R) .ret a w := by
  show LeavesInM F n P fn a.tmps R a.defers .returning w
  rw [hd]
  exact ⟨v, hr, hR⟩
set_option maxRecDepth 100000 in
set_option maxHeartbeats 8000000 in
theorem cmom_chk (p : Option Addr) (n c : Nat) (rs : List Rl) (q : Option Addr) (m d : Nat) (gs : List Gp) (a b : Int) (w : World) (hr : Hid (RulesV w p n c rs)) (hg : Hid (GapsV w q m d gs)) (E : Int) (hE : Hid (chkE rs gs = E)) (hne : ¬ E = 0) :
    Calls Try.prog 10 #[.slice p n c, .slice q m d, .int .i64 a, .int .i64 b] w fun e w' => e = .returned (.tuple #[.slice none 0 0, .int .i64 E]) ∧ Below w.heap.size w w' := by
  have U0 := Lib.hid (show Blk (((w.alloc (.cells #[.int .i64 b] 3)).alloc (.cells #[.slice none 0 0] 25)).alloc (.cells #[.int .i64 0] 26)) w.heap.size #[.int .i64 b] 3 from ((Blk.new w _ _).alloc _).alloc _)
  have L0 := Lib.hid (show Blk (((w.alloc (.cells #[.int .i64 b] 3)).alloc (.cells #[.slice none 0 0] 25)).alloc (.cells #[.int .i64 0] 26)) (w.heap.size + 1) #[.slice none 0 0] 25 by
    have h := Blk.new (w.alloc (.cells #[.int .i64 b] 3)) #[.slice none 0 0] 25
    simp only [World.size_alloc] at h
    exact h.alloc _)
  have E0 := Lib.hid (show Blk (((w.alloc (.cells #[.int .i64 b] 3)).alloc (.cells #[.slice none 0 0] 25)).alloc (.cells #[.int .i64 0] 26)) (w.heap.size + 1 + 1) #[.int .i64 0] 26 by
    have h := Blk.new ((w.alloc (.cells #[.int .i64 b] 3)).alloc (.cells #[.slice none 0 0] 25)) #[.int .i64 0] 26
    simp only [World.size_alloc] at h
    exact h)
  have B0 := Lib.hid (show Below w.heap.size w (((w.alloc (.cells #[.int .i64 b] 3)).alloc (.cells #[.slice none 0 0] 25)).alloc (.cells #[.int .i64 0] 26)) from ((bel_alloc1 w _).alloc (by simp) _).alloc (by simp; omega) _)
  have hd1 : decide (E = 0) = false := decide_eq_false hne
  have hd2 : (E == 0) = false := by simpa using hne
  go_enter Try.func10, Try.ntmps10
  go_upto_region 1 with fail
  generalize World.alloc (World.alloc (World.alloc w _) _) _ = W0 at U0 L0 E0 B0 ⊢
  have l1 := L0.out.lt
  go_upto_region 3 with (go_at_call 12; (with_reducible refine (ccheck_is p n c rs q m d gs E W0 (Lib.hid (hr.out.below B0.out)) (Lib.hid (hg.out.below B0.out)) hE).mono ?_); rintro e w1 ⟨rfl, hb⟩; have B1 := Lib.hid (bel_trans B0.out hb); have U1 := Lib.hid (U0.out.below hb U0.out.lt); have L1 := Lib.hid (L0.out.below hb L0.out.lt); have E1 := Lib.hid (E0.out.below hb E0.out.lt); have u0 : w1.cell? ⟨w.heap.size, 0, none⟩ = some (.int .i64 b) := U1.out.one; have x0 : w1.cell? ⟨w.heap.size + 1, 0, none⟩ = some (.slice none 0 0) := L1.out.one; have y0 := L1.out.frozen 0; have x1 : w1.cell? ⟨w.heap.size + 1 + 1, 0, none⟩ = some (.int .i64 0) := E1.out.one; have y1 := E1.out.frozen 0; clear hb)
  have L2 := Lib.hid (L1.out.other 0 (.int .i64 E) (show w.heap.size + 1 ≠ w.heap.size + 1 + 1 by omega))
  have E2 := Lib.hid (E1.out.set 0 (.int .i64 E))
  have B2 := Lib.hid (B1.out.setCell (p := ⟨w.heap.size + 1 + 1, 0, none⟩) (by show w.heap.size ≤ w.heap.size + 1 + 1; omega) (.int .i64 E))
  clear u0 x0 y0 x1 y1
  generalize World.setCell w1 _ _ = w2 at L2 E2 B2 ⊢
  have x0 : w2.cell? ⟨w.heap.size + 1, 0, none⟩ = some (.slice none 0 0) := L2.out.one
  have y0 := L2.out.frozen 0
  have x1 : w2.cell? ⟨w.heap.size + 1 + 1, 0, none⟩ = some (.int .i64 E) := E2.out.one
  have y1 := E2.out.frozen 0
  go_region
  have L3 := Lib.hid (show Blk ((w2.setCell ⟨w.heap.size + 1, 0, none⟩ (.slice none 0 0)).setCell ⟨w.heap.size + 1 + 1, 0, none⟩ (.int .i64 E)).drew (w.heap.size + 1) #[.slice none 0 0] 25 from (L2.out.set 0 (.slice none 0 0)).other 0 (.int .i64 E) (by omega))
  have E3 := Lib.hid (show Blk ((w2.setCell ⟨w.heap.size + 1, 0, none⟩ (.slice none 0 0)).setCell ⟨w.heap.size + 1 + 1, 0, none⟩ (.int .i64 E)).drew (w.heap.size + 1 + 1) #[.int .i64 E] 26 from (E2.out.other 0 (.slice none 0 0) (by omega)).set 0 (.int .i64 E))
  have B3 := Lib.hid (show Below w.heap.size w ((w2.setCell ⟨w.heap.size + 1, 0, none⟩ (.slice none 0 0)).setCell ⟨w.heap.size + 1 + 1, 0, none⟩ (.int .i64 E)).drew from ((B2.out.setCell (p := ⟨w.heap.size + 1, 0, none⟩) (by show w.heap.size ≤ w.heap.size + 1; omega) _).setCell (p := ⟨w.heap.size + 1 + 1, 0, none⟩) (by show w.heap.size ≤ w.heap.size + 1 + 1; omega) _).drew)
  clear x0 y0 x1 y1
  generalize World.drew _ = w3 at L3 E3 B3 ⊢
  have c0 := L3.out.one
  have c1 := E3.out.one
  go_wp2_with fail
  refine bodyPost_ret (v := .tuple #[.slice none 0 0, .int .i64 E]) (by simp [results, Try.results10, go_sem, c0, c1]) rfl ⟨rfl, B3.out⟩
set_option maxRecDepth 100000 in
set_option maxHeartbeats 8000000 in
theorem cmom_neg (p : Option Addr) (n c : Nat) (rs : List Rl) (q : Option Addr) (m d : Nat) (gs : List Gp) (a b : Int) (w : World) (hr : Hid (RulesV w p n c rs)) (hg : Hid (GapsV w q m d gs)) (hE : Hid (chkE rs gs = 0)) (h0 : a < 0) :
    Calls Try.prog 10 #[.slice p n c, .slice q m d, .int .i64 a, .int .i64 b] w fun e w' => e = .returned (.tuple #[.slice none 0 0, .int .i64 1]) ∧ Below w.heap.size w w' := by
  have U0 := Lib.hid (show Blk (((w.alloc (.cells #[.int .i64 b] 3)).alloc (.cells #[.slice none 0 0] 25)).alloc (.cells #[.int .i64 0] 26)) w.heap.size #[.int .i64 b] 3 from ((Blk.new w _ _).alloc _).alloc _)
  have L0 := Lib.hid (show Blk (((w.alloc (.cells #[.int .i64 b] 3)).alloc (.cells #[.slice none 0 0] 25)).alloc (.cells #[.int .i64 0] 26)) (w.heap.size + 1) #[.slice none 0 0] 25 by
    have h := Blk.new (w.alloc (.cells #[.int .i64 b] 3)) #[.slice none 0 0] 25
    simp only [World.size_alloc] at h
    exact h.alloc _)
  have E0 := Lib.hid (show Blk (((w.alloc (.cells #[.int .i64 b] 3)).alloc (.cells #[.slice none 0 0] 25)).alloc (.cells #[.int .i64 0] 26)) (w.heap.size + 1 + 1) #[.int .i64 0] 26 by
    have h := Blk.new ((w.alloc (.cells #[.int .i64 b] 3)).alloc (.cells #[.slice none 0 0] 25)) #[.int .i64 0] 26
    simp only [World.size_alloc] at h
    exact h)
  have B0 := Lib.hid (show Below w.heap.size w (((w.alloc (.cells #[.int .i64 b] 3)).alloc (.cells #[.slice none 0 0] 25)).alloc (.cells #[.int .i64 0] 26)) from ((bel_alloc1 w _).alloc (by simp) _).alloc (by simp; omega) _)
  have d1 : decide (a < 0) = true := decide_eq_true h0
  go_enter Try.func10, Try.ntmps10
  go_upto_region 1 with fail
  generalize World.alloc (World.alloc (World.alloc w _) _) _ = W0 at U0 L0 E0 B0 ⊢
  have l1 := L0.out.lt
  go_upto_region 2 with (go_at_call 12; (with_reducible refine (ccheck_is p n c rs q m d gs 0 W0 (Lib.hid (hr.out.below B0.out)) (Lib.hid (hg.out.below B0.out)) hE).mono ?_); rintro e w1 ⟨rfl, hb⟩; have B1 := Lib.hid (bel_trans B0.out hb); have U1 := Lib.hid (U0.out.below hb U0.out.lt); have L1 := Lib.hid (L0.out.below hb L0.out.lt); have E1 := Lib.hid (E0.out.below hb E0.out.lt); have u0 : w1.cell? ⟨w.heap.size, 0, none⟩ = some (.int .i64 b) := U1.out.one; have x0 : w1.cell? ⟨w.heap.size + 1, 0, none⟩ = some (.slice none 0 0) := L1.out.one; have y0 := L1.out.frozen 0; have x1 : w1.cell? ⟨w.heap.size + 1 + 1, 0, none⟩ = some (.int .i64 0) := E1.out.one; have y1 := E1.out.frozen 0; clear hb)
  have L2 := Lib.hid (L1.out.other 0 (.int .i64 0) (show w.heap.size + 1 ≠ w.heap.size + 1 + 1 by omega))
  have U2 := Lib.hid (U1.out.other 0 (.int .i64 0) (show w.heap.size ≠ w.heap.size + 1 + 1 by omega))
  have E2 := Lib.hid (E1.out.set 0 (.int .i64 0))
  have B2 := Lib.hid (B1.out.setCell (p := ⟨w.heap.size + 1 + 1, 0, none⟩) (by show w.heap.size ≤ w.heap.size + 1 + 1; omega) (.int .i64 0))
  clear u0 x0 y0 x1 y1
  generalize World.setCell w1 _ _ = w2 at L2 U2 E2 B2 ⊢
  have u0 : w2.cell? ⟨w.heap.size, 0, none⟩ = some (.int .i64 b) := U2.out.one
  have x0 : w2.cell? ⟨w.heap.size + 1, 0, none⟩ = some (.slice none 0 0) := L2.out.one
  have y0 := L2.out.frozen 0
  have x1 : w2.cell? ⟨w.heap.size + 1 + 1, 0, none⟩ = some (.int .i64 0) := E2.out.one
  have y1 := E2.out.frozen 0
  go_wp2_with fail
  have L3 := Lib.hid (show Blk ((w2.setCell ⟨w.heap.size + 1, 0, none⟩ (.slice none 0 0)).setCell ⟨w.heap.size + 1 + 1, 0, none⟩ (.int .i64 1)) (w.heap.size + 1) #[.slice none 0 0] 25 from (L2.out.set 0 (.slice none 0 0)).other 0 (.int .i64 1) (by omega))
  have E3 := Lib.hid (show Blk ((w2.setCell ⟨w.heap.size + 1, 0, none⟩ (.slice none 0 0)).setCell ⟨w.heap.size + 1 + 1, 0, none⟩ (.int .i64 1)) (w.heap.size + 1 + 1) #[.int .i64 1] 26 from (E2.out.other 0 (.slice none 0 0) (by omega)).set 0 (.int .i64 1))
  have B3 := Lib.hid (show Below w.heap.size w ((w2.setCell ⟨w.heap.size + 1, 0, none⟩ (.slice none 0 0)).setCell ⟨w.heap.size + 1 + 1, 0, none⟩ (.int .i64 1)) from ((B2.out.setCell (p := ⟨w.heap.size + 1, 0, none⟩) (by show w.heap.size ≤ w.heap.size + 1; omega) _).setCell (p := ⟨w.heap.size + 1 + 1, 0, none⟩) (by show w.heap.size ≤ w.heap.size + 1 + 1; omega) _))
  clear x0 y0 x1 y1 u0
  generalize World.setCell (World.setCell w2 _ _) _ _ = w3 at L3 E3 B3 ⊢
  have c0 := L3.out.one
  have c1 := E3.out.one
  refine bodyPost_ret (v := .tuple #[.slice none 0 0, .int .i64 1]) (by simp [results, Try.results10, go_sem, c0, c1]) rfl ⟨rfl, B3.out⟩
set_option maxRecDepth 100000 in
set_option maxHeartbeats 8000000 in
theorem cmom_ord (p : Option Addr) (n c : Nat) (rs : List Rl) (q : Option Addr) (m d : Nat) (gs : List Gp) (a b : Int) (w : World) (hr : Hid (RulesV w p n c rs)) (hg : Hid (GapsV w q m d gs)) (hE : Hid (chkE rs gs = 0)) (h0 : 0 ≤ a) (h1 : b < a) :
    Calls Try.prog 10 #[.slice p n c, .slice q m d, .int .i64 a, .int .i64 b] w fun e w' => e = .returned (.tuple #[.slice none 0 0, .int .i64 1]) ∧ Below w.heap.size w w' := by
  have U0 := Lib.hid (show Blk (((w.alloc (.cells #[.int .i64 b] 3)).alloc (.cells #[.slice none 0 0] 25)).alloc (.cells #[.int .i64 0] 26)) w.heap.size #[.int .i64 b] 3 from ((Blk.new w _ _).alloc _).alloc _)
  have L0 := Lib.hid (show Blk (((w.alloc (.cells #[.int .i64 b] 3)).alloc (.cells #[.slice none 0 0] 25)).alloc (.cells #[.int .i64 0] 26)) (w.heap.size + 1) #[.slice none 0 0] 25 by
    have h := Blk.new (w.alloc (.cells #[.int .i64 b] 3)) #[.slice none 0 0] 25
    simp only [World.size_alloc] at h
    exact h.alloc _)
  have E0 := Lib.hid (show Blk (((w.alloc (.cells #[.int .i64 b] 3)).alloc (.cells #[.slice none 0 0] 25)).alloc (.cells #[.int .i64 0] 26)) (w.heap.size + 1 + 1) #[.int .i64 0] 26 by
    have h := Blk.new ((w.alloc (.cells #[.int .i64 b] 3)).alloc (.cells #[.slice none 0 0] 25)) #[.int .i64 0] 26
    simp only [World.size_alloc] at h
    exact h)
  have B0 := Lib.hid (show Below w.heap.size w (((w.alloc (.cells #[.int .i64 b] 3)).alloc (.cells #[.slice none 0 0] 25)).alloc (.cells #[.int .i64 0] 26)) from ((bel_alloc1 w _).alloc (by simp) _).alloc (by simp; omega) _)
  have d1 : decide (a < 0) = false := decide_eq_false (by omega)
  have d2 : decide (b < a) = true := decide_eq_true h1
  go_enter Try.func10, Try.ntmps10
  go_upto_region 1 with fail
  generalize World.alloc (World.alloc (World.alloc w _) _) _ = W0 at U0 L0 E0 B0 ⊢
  have l1 := L0.out.lt
  go_upto_region 2 with (go_at_call 12; (with_reducible refine (ccheck_is p n c rs q m d gs 0 W0 (Lib.hid (hr.out.below B0.out)) (Lib.hid (hg.out.below B0.out)) hE).mono ?_); rintro e w1 ⟨rfl, hb⟩; have B1 := Lib.hid (bel_trans B0.out hb); have U1 := Lib.hid (U0.out.below hb U0.out.lt); have L1 := Lib.hid (L0.out.below hb L0.out.lt); have E1 := Lib.hid (E0.out.below hb E0.out.lt); have u0 : w1.cell? ⟨w.heap.size, 0, none⟩ = some (.int .i64 b) := U1.out.one; have x0 : w1.cell? ⟨w.heap.size + 1, 0, none⟩ = some (.slice none 0 0) := L1.out.one; have y0 := L1.out.frozen 0; have x1 : w1.cell? ⟨w.heap.size + 1 + 1, 0, none⟩ = some (.int .i64 0) := E1.out.one; have y1 := E1.out.frozen 0; clear hb)
  have L2 := Lib.hid (L1.out.other 0 (.int .i64 0) (show w.heap.size + 1 ≠ w.heap.size + 1 + 1 by omega))
  have U2 := Lib.hid (U1.out.other 0 (.int .i64 0) (show w.heap.size ≠ w.heap.size + 1 + 1 by omega))
  have E2 := Lib.hid (E1.out.set 0 (.int .i64 0))
  have B2 := Lib.hid (B1.out.setCell (p := ⟨w.heap.size + 1 + 1, 0, none⟩) (by show w.heap.size ≤ w.heap.size + 1 + 1; omega) (.int .i64 0))
  clear u0 x0 y0 x1 y1
  generalize World.setCell w1 _ _ = w2 at L2 U2 E2 B2 ⊢
  have u0 : w2.cell? ⟨w.heap.size, 0, none⟩ = some (.int .i64 b) := U2.out.one
  have x0 : w2.cell? ⟨w.heap.size + 1, 0, none⟩ = some (.slice none 0 0) := L2.out.one
  have y0 := L2.out.frozen 0
  have x1 : w2.cell? ⟨w.heap.size + 1 + 1, 0, none⟩ = some (.int .i64 0) := E2.out.one
  have y1 := E2.out.frozen 0
  go_wp2_with fail
  have L3 := Lib.hid (show Blk ((w2.setCell ⟨w.heap.size + 1, 0, none⟩ (.slice none 0 0)).setCell ⟨w.heap.size + 1 + 1, 0, none⟩ (.int .i64 1)) (w.heap.size + 1) #[.slice none 0 0] 25 from (L2.out.set 0 (.slice none 0 0)).other 0 (.int .i64 1) (by omega))
  have E3 := Lib.hid (show Blk ((w2.setCell ⟨w.heap.size + 1, 0, none⟩ (.slice none 0 0)).setCell ⟨w.heap.size + 1 + 1, 0, none⟩ (.int .i64 1)) (w.heap.size + 1 + 1) #[.int .i64 1] 26 from (E2.out.other 0 (.slice none 0 0) (by omega)).set 0 (.int .i64 1))
  have B3 := Lib.hid (show Below w.heap.size w ((w2.setCell ⟨w.heap.size + 1, 0, none⟩ (.slice none 0 0)).setCell ⟨w.heap.size + 1 + 1, 0, none⟩ (.int .i64 1)) from ((B2.out.setCell (p := ⟨w.heap.size + 1, 0, none⟩) (by show w.heap.size ≤ w.heap.size + 1; omega) _).setCell (p := ⟨w.heap.size + 1 + 1, 0, none⟩) (by show w.heap.size ≤ w.heap.size + 1 + 1; omega) _))
  clear x0 y0 x1 y1 u0
  generalize World.setCell (World.setCell w2 _ _) _ _ = w3 at L3 E3 B3 ⊢
  have c0 := L3.out.one
  have c1 := E3.out.one
  refine bodyPost_ret (v := .tuple #[.slice none 0 0, .int .i64 1]) (by simp [results, Try.results10, go_sem, c0, c1]) rfl ⟨rfl, B3.out⟩
set_option maxRecDepth 100000 in
set_option maxHeartbeats 8000000 in
theorem cmom_end (p : Option Addr) (n c : Nat) (rs : List Rl) (q : Option Addr) (m d : Nat) (gs : List Gp) (a b : Int) (w : World) (hr : Hid (RulesV w p n c rs)) (hg : Hid (GapsV w q m d gs)) (hE : Hid (chkE rs gs = 0)) (h0 : 0 ≤ a) (h1 : a ≤ b) (h2 : 2097152 < b) :
    Calls Try.prog 10 #[.slice p n c, .slice q m d, .int .i64 a, .int .i64 b] w fun e w' => e = .returned (.tuple #[.slice none 0 0, .int .i64 1]) ∧ Below w.heap.size w w' := by
  have U0 := Lib.hid (show Blk (((w.alloc (.cells #[.int .i64 b] 3)).alloc (.cells #[.slice none 0 0] 25)).alloc (.cells #[.int .i64 0] 26)) w.heap.size #[.int .i64 b] 3 from ((Blk.new w _ _).alloc _).alloc _)
  have L0 := Lib.hid (show Blk (((w.alloc (.cells #[.int .i64 b] 3)).alloc (.cells #[.slice none 0 0] 25)).alloc (.cells #[.int .i64 0] 26)) (w.heap.size + 1) #[.slice none 0 0] 25 by
    have h := Blk.new (w.alloc (.cells #[.int .i64 b] 3)) #[.slice none 0 0] 25
    simp only [World.size_alloc] at h
    exact h.alloc _)
  have E0 := Lib.hid (show Blk (((w.alloc (.cells #[.int .i64 b] 3)).alloc (.cells #[.slice none 0 0] 25)).alloc (.cells #[.int .i64 0] 26)) (w.heap.size + 1 + 1) #[.int .i64 0] 26 by
    have h := Blk.new ((w.alloc (.cells #[.int .i64 b] 3)).alloc (.cells #[.slice none 0 0] 25)) #[.int .i64 0] 26
    simp only [World.size_alloc] at h
    exact h)
  have B0 := Lib.hid (show Below w.heap.size w (((w.alloc (.cells #[.int .i64 b] 3)).alloc (.cells #[.slice none 0 0] 25)).alloc (.cells #[.int .i64 0] 26)) from ((bel_alloc1 w _).alloc (by simp) _).alloc (by simp; omega) _)
  have d1 : decide (a < 0) = false := decide_eq_false (by omega)
  have d2 : decide (b < a) = false := decide_eq_false (by omega)
  have d3 : decide (2097152 < b) = true := decide_eq_true h2
  go_enter Try.func10, Try.ntmps10
  go_upto_region 1 with fail
  generalize World.alloc (World.alloc (World.alloc w _) _) _ = W0 at U0 L0 E0 B0 ⊢
  have l1 := L0.out.lt
  go_upto_region 2 with (go_at_call 12; (with_reducible refine (ccheck_is p n c rs q m d gs 0 W0 (Lib.hid (hr.out.below B0.out)) (Lib.hid (hg.out.below B0.out)) hE).mono ?_); rintro e w1 ⟨rfl, hb⟩; have B1 := Lib.hid (bel_trans B0.out hb); have U1 := Lib.hid (U0.out.below hb U0.out.lt); have L1 := Lib.hid (L0.out.below hb L0.out.lt); have E1 := Lib.hid (E0.out.below hb E0.out.lt); have u0 : w1.cell? ⟨w.heap.size, 0, none⟩ = some (.int .i64 b) := U1.out.one; have x0 : w1.cell? ⟨w.heap.size + 1, 0, none⟩ = some (.slice none 0 0) := L1.out.one; have y0 := L1.out.frozen 0; have x1 : w1.cell? ⟨w.heap.size + 1 + 1, 0, none⟩ = some (.int .i64 0) := E1.out.one; have y1 := E1.out.frozen 0; clear hb)
  have L2 := Lib.hid (L1.out.other 0 (.int .i64 0) (show w.heap.size + 1 ≠ w.heap.size + 1 + 1 by omega))
  have U2 := Lib.hid (U1.out.other 0 (.int .i64 0) (show w.heap.size ≠ w.heap.size + 1 + 1 by omega))
  have E2 := Lib.hid (E1.out.set 0 (.int .i64 0))
  have B2 := Lib.hid (B1.out.setCell (p := ⟨w.heap.size + 1 + 1, 0, none⟩) (by show w.heap.size ≤ w.heap.size + 1 + 1; omega) (.int .i64 0))
  clear u0 x0 y0 x1 y1
  generalize World.setCell w1 _ _ = w2 at L2 U2 E2 B2 ⊢
  have u0 : w2.cell? ⟨w.heap.size, 0, none⟩ = some (.int .i64 b) := U2.out.one
  have x0 : w2.cell? ⟨w.heap.size + 1, 0, none⟩ = some (.slice none 0 0) := L2.out.one
  have y0 := L2.out.frozen 0
  have x1 : w2.cell? ⟨w.heap.size + 1 + 1, 0, none⟩ = some (.int .i64 0) := E2.out.one
  have y1 := E2.out.frozen 0
  go_wp2_with fail
  have L3 := Lib.hid (show Blk ((w2.setCell ⟨w.heap.size + 1, 0, none⟩ (.slice none 0 0)).setCell ⟨w.heap.size + 1 + 1, 0, none⟩ (.int .i64 1)) (w.heap.size + 1) #[.slice none 0 0] 25 from (L2.out.set 0 (.slice none 0 0)).other 0 (.int .i64 1) (by omega))
  have E3 := Lib.hid (show Blk ((w2.setCell ⟨w.heap.size + 1, 0, none⟩ (.slice none 0 0)).setCell ⟨w.heap.size + 1 + 1, 0, none⟩ (.int .i64 1)) (w.heap.size + 1 + 1) #[.int .i64 1] 26 from (E2.out.other 0 (.slice none 0 0) (by omega)).set 0 (.int .i64 1))
  have B3 := Lib.hid (show Below w.heap.size w ((w2.setCell ⟨w.heap.size + 1, 0, none⟩ (.slice none 0 0)).setCell ⟨w.heap.size + 1 + 1, 0, none⟩ (.int .i64 1)) from ((B2.out.setCell (p := ⟨w.heap.size + 1, 0, none⟩) (by show w.heap.size ≤ w.heap.size + 1; omega) _).setCell (p := ⟨w.heap.size + 1 + 1, 0, none⟩) (by show w.heap.size ≤ w.heap.size + 1 + 1; omega) _))
  clear x0 y0 x1 y1 u0
  generalize World.setCell (World.setCell w2 _ _) _ _ = w3 at L3 E3 B3 ⊢
  have c0 := L3.out.one
  have c1 := E3.out.one
  refine bodyPost_ret (v := .tuple #[.slice none 0 0, .int .i64 1]) (by simp [results, Try.results10, go_sem, c0, c1]) rfl ⟨rfl, B3.out⟩
set_option maxRecDepth 100000 in
set_option maxHeartbeats 8000000 in
theorem cmom_run (p : Option Addr) (n c : Nat) (rs : List Rl) (q : Option Addr) (m d : Nat) (gs : List Gp) (a b : Int) (w : World) (hr : Hid (RulesV w p n c rs)) (hg : Hid (GapsV w q m d gs)) (hE : Hid (chkE rs gs = 0)) (h0 : 0 ≤ a) (h1 : a ≤ b) (h2 : b ≤ 2097152) :
    Calls Try.prog 10 #[.slice p n c, .slice q m d, .int .i64 a, .int .i64 b] w fun e w' => ∃ v, e = .returned (.tuple #[v, .int .i64 (momE rs gs a b)]) ∧ OwnI w' w.heap.size v (momR rs gs a b) ∧ Below w.heap.size w w' := by
  have U0 := Lib.hid (show Blk (((w.alloc (.cells #[.int .i64 b] 3)).alloc (.cells #[.slice none 0 0] 25)).alloc (.cells #[.int .i64 0] 26)) w.heap.size #[.int .i64 b] 3 from ((Blk.new w _ _).alloc _).alloc _)
  have L0 := Lib.hid (show Blk (((w.alloc (.cells #[.int .i64 b] 3)).alloc (.cells #[.slice none 0 0] 25)).alloc (.cells #[.int .i64 0] 26)) (w.heap.size + 1) #[.slice none 0 0] 25 by
    have h := Blk.new (w.alloc (.cells #[.int .i64 b] 3)) #[.slice none 0 0] 25
    simp only [World.size_alloc] at h
    exact h.alloc _)
  have E0 := Lib.hid (show Blk (((w.alloc (.cells #[.int .i64 b] 3)).alloc (.cells #[.slice none 0 0] 25)).alloc (.cells #[.int .i64 0] 26)) (w.heap.size + 1 + 1) #[.int .i64 0] 26 by
    have h := Blk.new ((w.alloc (.cells #[.int .i64 b] 3)).alloc (.cells #[.slice none 0 0] 25)) #[.int .i64 0] 26
    simp only [World.size_alloc] at h
    exact h)
  have B0 := Lib.hid (show Below w.heap.size w (((w.alloc (.cells #[.int .i64 b] 3)).alloc (.cells #[.slice none 0 0] 25)).alloc (.cells #[.int .i64 0] 26)) from ((bel_alloc1 w _).alloc (by simp) _).alloc (by simp; omega) _)
  have d1 : decide (a < 0) = false := decide_eq_false (by omega)
  have d2 : decide (b < a) = false := decide_eq_false (by omega)
  have d3 : decide (2097152 < b) = false := decide_eq_false (by omega)
  have HV := Lib.hid (chk_valid hE.out)
  refine (callsIn_wide (n := 5)).1 (callsIn_of_wp_marks Try.func10 rfl trivial ?_ rfl)
  simp only [Try.ntmps10, List.size_toArray, List.length_cons, List.length_nil, Nat.reduceAdd, Nat.reduceSub, Array.replicate_succ, Array.replicate_zero, List.push_toArray, List.append_toArray, List.nil_append, List.cons_append]
  refine wpIn_wide.2 ?_
  refine Code.wp_mono (Q := noPanic _) noPanic_le ?_
  go_upto_region 1 with fail
  generalize World.alloc (World.alloc (World.alloc w _) _) _ = W0 at U0 L0 E0 B0 ⊢
  have l1 := L0.out.lt
  go_upto_region 2 with (go_at_call 12; (with_reducible refine (ccheck_is p n c rs q m d gs 0 W0 (Lib.hid (hr.out.below B0.out)) (Lib.hid (hg.out.below B0.out)) hE).mono ?_); rintro e w1 ⟨rfl, hb⟩; have B1 := Lib.hid (bel_trans B0.out hb); have U1 := Lib.hid (U0.out.below hb U0.out.lt); have L1 := Lib.hid (L0.out.below hb L0.out.lt); have E1 := Lib.hid (E0.out.below hb E0.out.lt); have u0 : w1.cell? ⟨w.heap.size, 0, none⟩ = some (.int .i64 b) := U1.out.one; have x0 : w1.cell? ⟨w.heap.size + 1, 0, none⟩ = some (.slice none 0 0) := L1.out.one; have y0 := L1.out.frozen 0; have x1 : w1.cell? ⟨w.heap.size + 1 + 1, 0, none⟩ = some (.int .i64 0) := E1.out.one; have y1 := E1.out.frozen 0; clear hb)
  have L2 := Lib.hid (L1.out.other 0 (.int .i64 0) (show w.heap.size + 1 ≠ w.heap.size + 1 + 1 by omega))
  have U2 := Lib.hid (U1.out.other 0 (.int .i64 0) (show w.heap.size ≠ w.heap.size + 1 + 1 by omega))
  have E2 := Lib.hid (E1.out.set 0 (.int .i64 0))
  have B2 := Lib.hid (B1.out.setCell (p := ⟨w.heap.size + 1 + 1, 0, none⟩) (by show w.heap.size ≤ w.heap.size + 1 + 1; omega) (.int .i64 0))
  clear u0 x0 y0 x1 y1
  generalize World.setCell w1 _ _ = w2 at L2 U2 E2 B2 ⊢
  have u0 : w2.cell? ⟨w.heap.size, 0, none⟩ = some (.int .i64 b) := U2.out.one
  have x0 : w2.cell? ⟨w.heap.size + 1, 0, none⟩ = some (.slice none 0 0) := L2.out.one
  have y0 := L2.out.frozen 0
  have x1 : w2.cell? ⟨w.heap.size + 1 + 1, 0, none⟩ = some (.int .i64 0) := E2.out.one
  have y1 := E2.out.frozen 0
  obtain ⟨ib, hib⟩ : ∃ ib, w2.heap.size = ib := ⟨_, rfl⟩
  have HIB := Lib.hid hib
  go_wp2_with (go_at_call 19; (with_reducible refine (cdep_fn p n c q m d a ib _ hib).mono ?_); rintro e' w' ⟨rfl, rfl⟩)
  have R3 := Lib.hid (show Blk (((w2.alloc (.cells #[.slice p n c] 22)).alloc (.cells #[.slice q m d] 23)).alloc (.cells #[.int .i64 a] 3)) ib #[.slice p n c] 22 by rw [← hib]; exact ((Blk.new w2 _ _).alloc _).alloc _)
  have O3 := Lib.hid (show Blk (((w2.alloc (.cells #[.slice p n c] 22)).alloc (.cells #[.slice q m d] 23)).alloc (.cells #[.int .i64 a] 3)) (ib + 1) #[.slice q m d] 23 by
    have h := Blk.new (w2.alloc (.cells #[.slice p n c] 22)) #[.slice q m d] 23
    rw [World.size_alloc, hib] at h
    exact h.alloc _)
  have F3 := Lib.hid (show Blk (((w2.alloc (.cells #[.slice p n c] 22)).alloc (.cells #[.slice q m d] 23)).alloc (.cells #[.int .i64 a] 3)) (ib + 2) #[.int .i64 a] 3 by
    have h := Blk.new ((w2.alloc (.cells #[.slice p n c] 22)).alloc (.cells #[.slice q m d] 23)) #[.int .i64 a] 3
    rw [World.size_alloc, World.size_alloc, hib] at h
    exact h)
  have U3 := Lib.hid (((U2.out.alloc (.cells #[.slice p n c] 22)).alloc (.cells #[.slice q m d] 23)).alloc (.cells #[.int .i64 a] 3))
  have L3 := Lib.hid (((L2.out.alloc (.cells #[.slice p n c] 22)).alloc (.cells #[.slice q m d] 23)).alloc (.cells #[.int .i64 a] 3))
  have E3 := Lib.hid (((E2.out.alloc (.cells #[.slice p n c] 22)).alloc (.cells #[.slice q m d] 23)).alloc (.cells #[.int .i64 a] 3))
  have B3 := Lib.hid (show Below w.heap.size w (((w2.alloc (.cells #[.slice p n c] 22)).alloc (.cells #[.slice q m d] 23)).alloc (.cells #[.int .i64 a] 3)) from bel_trans B2.out (((bel_alloc1 w2 _).alloc (by simp) _).alloc (by simp; omega) _))
  have hs3 : ib + 3 ≤ (((w2.alloc (.cells #[.slice p n c] 22)).alloc (.cells #[.slice q m d] 23)).alloc (.cells #[.int .i64 a] 3)).heap.size := by simp only [World.size_alloc]; omega
  have hei : w.heap.size + 1 + 1 < ib := by rw [← hib]; exact E2.out.lt
  clear u0 x0 y0 x1 y1 hib
  generalize World.alloc (World.alloc (World.alloc w2 _) _) _ = w3 at R3 O3 F3 U3 L3 E3 B3 hs3 ⊢
  obtain ⟨ub, hub⟩ : ∃ ub, w.heap.size = ub := ⟨_, rfl⟩
  obtain ⟨lb, hlb⟩ : ∃ lb, w.heap.size + 1 = lb := ⟨_, rfl⟩
  obtain ⟨eb, heb⟩ : ∃ eb, w.heap.size + 1 + 1 = eb := ⟨_, rfl⟩
  rw [heb] at E3 hei ⊢
  rw [hlb] at L3 ⊢
  have HEB := Lib.hid heb
  have HLB := Lib.hid hlb
  have hb12 : w.heap.size ≤ ub ∧ ub < lb ∧ lb < eb ∧ eb < ib := by omega
  have HUB := Lib.hid hub
  rw [show Blk w3 w.heap.size #[.int .i64 b] 3 = Blk w3 ub #[.int .i64 b] 3 by rw [hub]] at U3
  simp only [show (Value.pointer (some ⟨w.heap.size, 0, none⟩)) = .pointer (some ⟨ub, 0, none⟩) by rw [hub]]
  clear hub hlb heb L2 U2 E2 B2 L1 U1 E1 B1 L0 U0 E0 B0 l1
  have IO := fun (pre : List Int) (W : World) => ((∀ t ∈ pre, t < b) ∧ pre.length ≤ 2000)
  clear IO
  refine (wpIn_wide (n := 5)).1 ?_
  refine wpIn_rangeFunc_ownX rfl (by omega) (gf := 22) (lb := #[.pointer (some ⟨ib, 0, none⟩), .pointer (some ⟨ib + 2, 0, none⟩), .pointer (some ⟨ib + 1, 0, none⟩)]) rfl trivial (enters_of Try.func22 (by kernel_rfl) rfl)
    (cdep_seq p n c rs q m d gs a 4 (by omega) w.heap.size ib w w3 rfl B3 (by omega) hs3 R3.out.one F3.out.one O3.out.one hr hg (Lib.hid HV.out.1) (by have := HV.out.2.1; have := hr.out.len; omega) (by have := HV.out.2.2; have := hg.out.len; omega) h0 (by omega))
    (fun h k => h.trans k) (KpD.put (by omega) hs3) (Below.refl _ _) (fun _ => rfl)
    (fun pre W => ((∀ t ∈ pre, t < b) ∧ pre.length ≤ 2000) ∧ (∃ v, Blk W lb #[v] 25 ∧ OwnI W (w3.heap.size + 2 + 1) v pre) ∧ Blk W ub #[.int .i64 b] 3 ∧ Blk W eb #[.int .i64 0] 26 ∧ Below w.heap.size w W)
    (fun c' xs W => (c' = .exit 0 ∧ ∃ pre x, xs = pre ++ [x] ∧ b ≤ x ∧ ((∀ t ∈ pre, t < b) ∧ pre.length ≤ 2000) ∧ (∃ v, Blk W lb #[v] 25 ∧ OwnI W (w3.heap.size + 2 + 1) v pre) ∧ Blk W ub #[.int .i64 b] 3 ∧ Blk W eb #[.int .i64 0] 26 ∧ Below w.heap.size w W) ∨
      (c' = .ret ∧ ∃ pre x, xs = pre ++ [x] ∧ x < b ∧ (∀ t ∈ pre, t < b) ∧ pre.length = 2000 ∧ Blk W lb #[.slice none 0 0] 25 ∧ Blk W eb #[.int .i64 2] 26 ∧ Below w.heap.size w W))
    ?hI ?hIx ?h0 (fun x a' W => a' = { tmps := #[.slice p n c, .slice q m d, .int .i64 a, .int .i64 b, undef, undef, undef, .pointer (some ⟨ub, 0, none⟩), .pointer (some ⟨lb, 0, none⟩), .pointer (some ⟨eb, 0, none⟩), .int .i64 x, .slice p n c, .slice q m d, .int .i64 0, .int .i64 0, .bool false, undef, .int .i64 a, .bool false, .bool false, .int .i64 a, .int .i64 b, .bool false, .bool false, .bool false, .int .i64 b, .bool false, .bool false, .slice p n c, .slice q m d, .int .i64 a, .func (.func 22) #[] #[.pointer (some ⟨ib, 0, none⟩), .pointer (some ⟨ib + 2, 0, none⟩), .pointer (some ⟨ib + 1, 0, none⟩)], .int .i64 x, undef, undef, undef, undef, undef, undef, undef, undef, undef, undef, undef], defers := [] }) ?hAx ?assign ?body ?done ?stop
  case hI => exact (pure_ownX _).and ((row_ownX (by omega)).and ((blk_ownX (fun _ => #[.int .i64 b]) (by omega)).and ((blk_ownX (fun _ => #[.int .i64 0]) (by omega)).and (below_ownX (Nat.le_refl _) (by omega) (by omega)))))
  case hIx =>
    intro c' s X Y row h hg hr
    have kb : ∀ {u : Nat} {v : Value} {t : TypeId}, u < w3.heap.size + 2 → Blk X u #[v] t → Blk Y u #[v] t := fun {u v t} h1 h2 => blk_ownX (β := Unit) (B := w3.heap.size) (m := 1) (fun _ => #[v]) h1 () X Y row h2 hg hr
    have kw : Below w.heap.size w X → Below w.heap.size w Y := fun h2 => below_ownX (β := Unit) (B := w3.heap.size) (n0 := w3.heap.size + 2) (m := 1) (Nat.le_refl _) (by omega) (by omega) () X Y row h2 hg hr
    rcases h with ⟨rfl, pre, x, e, hx, hp, hv, hu, he, hb⟩ | ⟨rfl, pre, x, e, hx, hp, hl, h1, h2, hb⟩
    · exact .inl ⟨rfl, pre, x, e, hx, hp, row_ownX (B := w3.heap.size) (by omega) pre X Y row hv hg hr, kb (by omega) hu, kb (by omega) he, kw hb⟩
    · exact .inr ⟨rfl, pre, x, e, hx, hp, hl, kb (by omega) h1, kb (by omega) h2, kw hb⟩
  case h0 => exact ⟨⟨by simp, by simp⟩, ⟨.slice none 0 0, L3.out, World.ownsRow_nil _ _ _ _⟩, U3.out, E3.out, B3.out⟩
  case hAx => exact fun x a' => pure_ownX _
  case assign =>
    rintro lo pre x W K hi hsz hK
    gi_wp2
    exact hK _ _ (KeepsFrom.refl _ _) ⟨⟨Below.refl _ _, fun _ _ _ => rfl⟩, fun _ _ _ => rfl⟩ hi rfl
  case body =>
    rintro lo pre x a' W hl hi rfl hlt hsz
    obtain ⟨⟨hp1, hp2⟩, ⟨v, hL, hO⟩, hU, hE0, hB⟩ := hi
    obtain ⟨pv, cv, hv, hz, hz1, hz2, hz3⟩ := ownI_src hO
    subst hv
    have HOC := Lib.hid (ownI_cells hO)
    have HO := Lib.hid hO
    have HL := Lib.hid hL
    have HU := Lib.hid hU
    have HE0 := Lib.hid hE0
    have HBW := Lib.hid hB
    have HP1 := Lib.hid hp1
    have HSZ := Lib.hid hsz
    have u0 := HU.out.one
    have x0 := HL.out.one
    have y0 := HL.out.frozen 0
    have x1 := HE0.out.one
    have y1 := HE0.out.frozen 0
    clear hz hz3 hO hL hU hE0 hB hp1 hsz hlt hl
    by_cases hxb : b ≤ x
    · have d5 : decide (b ≤ x) = true := decide_eq_true hxb
      gi_wp2
      exact ⟨KeepsFrom.refl _ _, .inl ⟨rfl, pre, x, rfl, hxb, ⟨HP1.out, hp2⟩, ⟨_, HL.out, HO.out⟩, HU.out, HE0.out, HBW.out⟩⟩
    have d5 : decide (b ≤ x) = false := decide_eq_false hxb
    by_cases h2k : pre.length = 2000
    · have d6 : decide ((pre.length : Int) = 2000) = true := decide_eq_true (by omega)
      have d7 : ((pre.length : Int) == 2000) = true := by simp; omega
      gi_wp2
      exact ⟨((KeepsOthers.setCell _ _ _).trans (KeepsOthers.setCell _ _ _)).from _, .inr ⟨rfl, pre, x, rfl, by omega, HP1.out, h2k, (HL.out.set 0 _).other 0 _ (by omega), (HE0.out.other 0 _ (by omega)).set 0 _, (HBW.out.setCell (p := ⟨lb, 0, none⟩) (by show w.heap.size ≤ lb; omega) _).setCell (p := ⟨eb, 0, none⟩) (by show w.heap.size ≤ eb; omega) _⟩⟩
    have d6 : decide ((pre.length : Int) = 2000) = false := decide_eq_false (by omega)
    have d7 : ((pre.length : Int) == 2000) = false := by simp; omega
    obtain ⟨i0, hi, hz0, hz1, hz2⟩ := info_parts infoI
    gi_wp2_with (gi_at_builtin; refine wpListIn_append_own _ rfl _ _ 25 rfl (w3.heap.size + 2 + 1) 3 i0 (.int .i64 0) 1 8 Try.underlying25 hi hz0 hz1 hz2 rfl (by decide) _ _ _ rfl ((show W.ownsRow (w3.heap.size + 2 + 1) 3 1 (.slice pv pre.length cv) pre.length (iv pre) from HO.out).alloc _) ⟨W.heap.size, 0, none⟩ 1 1 [.int .i64 x] rfl rfl (cell_new1 _ _ _) (by simp [Value.oneCell']) (by unfold maxLen; omega) (by omega) (by have := HSZ.out; simp; omega) ?_; intro v' w1 hown' hgrow _; have HN := Lib.hid (ownI_of hown'); obtain ⟨p9, c9, hv9, _, _, _, _⟩ := ownI_src HN.out; subst hv9; have HG := Lib.hid (show (W.alloc (.cells #[.int .i64 x] 3)).grownBy w1 (Value.slice pv pre.length cv).ownBlock from hgrow); have hq0 := (grown_blk HG.out (HL.out.alloc _) (fun e => by have := (HOC.out lb e).1; omega)).one; have hq1 := (grown_blk HG.out (HL.out.alloc _) (fun e => by have := (HOC.out lb e).1; omega)).frozen 0; clear hown' hgrow)
    have hA : OwnI (W.alloc (.cells #[.int .i64 x] 3)) (w3.heap.size + 2 + 1) (.slice pv pre.length cv) pre := ownI_alloc HO.out _
    have hC := ownI_cells hA
    have hnb : ∀ u, u < w3.heap.size + 2 + 1 → (Value.slice pv pre.length cv).ownBlock = some u → False := fun u hu e => by have := (hC u e).1; omega
    have hsz2 := HSZ.out
    have hB0 := HBW.out.size
    have kU := grown_blk HG.out (HU.out.alloc _) (hnb ub (by omega))
    have kL := grown_blk HG.out (HL.out.alloc _) (hnb lb (by omega))
    have kE := grown_blk HG.out (HE0.out.alloc _) (hnb eb (by omega))
    have kK : KeepsOthers W w1 := (KeepsOthers.alloc _ _).trans (keeps_grown HG.out (fun r e => (hC r e).2))
    have kD : KpD w.heap.size ib W w1 := (KpD.of_below (bel_alloc1 W _) (by omega) (by omega)).trans (KpD.of_grown HG.out (by rw [World.size_alloc]; omega) (by rw [World.size_alloc]; omega) (fun r e => by have := (hC r e).1; omega))
    have kN : ∀ u, w3.heap.size + 2 ≤ u → u < w3.heap.size + 2 + 1 → w1.heap[u]? = W.heap[u]? := fun u h5 h6 => (HG.out.block u (by rw [World.size_alloc]; omega) (fun e => hnb u h6 e.symm)).trans ((bel_alloc1 W _).block u (by omega))
    have kB : Below w.heap.size w w1 := HBW.out.trans kD.1
    have kN2 := HN.out
    rw [List.length_append, List.length_singleton] at kN2
    have kO : OwnI (w1.setCell ⟨lb, 0, none⟩ (.slice p9 (pre.length + 1) c9)) (w3.heap.size + 2 + 1) (.slice p9 (pre.length + 1) c9) (pre ++ [x]) := ownI_keep kN2 (gr_set (gr_refl _ (some lb))) (fun r e => .inl (by cases e; omega))
    exact ⟨(kK.trans (KeepsOthers.setCell _ _ _)).from _, ⟨kD.set (by omega) (by omega), fun u h5 h6 => (Below.heap_setCell _ ⟨lb, 0, none⟩ _ u (by show u ≠ lb; omega)).trans (kN u h5 h6)⟩,
      ⟨fun t ht => (List.mem_append.1 ht).elim (HP1.out t) (fun h => by rw [List.mem_singleton.1 h]; omega), by rw [List.length_append, List.length_singleton]; omega⟩, ⟨_, kL.set 0 _, kO⟩, kU.other 0 _ (by omega), kE.other 0 _ (by omega), kB.setCell (p := ⟨lb, 0, none⟩) (by show w.heap.size ≤ lb; omega) _⟩
  case done =>
    rintro D' xs W hD rfl ⟨⟨hp1, hp2⟩, ⟨v, hL, hO⟩, hU, hE0, hB⟩ hK
    obtain ⟨pv, cv, hv, hz, hz1, hz2, hz3⟩ := ownI_src hO
    subst hv
    have HMO := Lib.hid (show momL rs gs a b = depL rs gs a from takeWhile_all (fun t ht => decide_eq_true (hp1 t ht)))
    have HO := Lib.hid hO
    have HL := Lib.hid hL
    have HE0 := Lib.hid hE0
    have HBW := Lib.hid hB
    have HKD := Lib.hid hK
    have HPL := Lib.hid hp2
    have x0 := HL.out.one
    have y0 := HL.out.frozen 0
    have x1 := HE0.out.one
    have y1 := HE0.out.frozen 0
    have hlt := HE0.out.lt
    clear hz hz3 hO hL hU hE0 hB hp1 hK hp2
    go_wp2_with fail
    have hVl := Blk.set HL.out 0 (.slice pv (depL rs gs a).length cv)
    have hWl : Blk ((W.setCell ⟨lb, 0, none⟩ (.slice pv (depL rs gs a).length cv)).setCell ⟨eb, 0, none⟩ (.int .i64 0)) lb #[.slice pv (depL rs gs a).length cv] 25 := hVl.other 0 _ (by omega)
    have hWe : Blk ((W.setCell ⟨lb, 0, none⟩ (.slice pv (depL rs gs a).length cv)).setCell ⟨eb, 0, none⟩ (.int .i64 0)) eb #[.int .i64 0] 26 := (HE0.out.other 0 _ (by omega)).set 0 _
    have hWK : ((W.setCell ⟨lb, 0, none⟩ (.slice pv (depL rs gs a).length cv)).setCell ⟨eb, 0, none⟩ (.int .i64 0)).heap[D']? = some (.deferred (some [])) := (Below.heap_setCell _ ⟨eb, 0, none⟩ _ D' (by show D' ≠ eb; omega)).trans ((Below.heap_setCell _ ⟨lb, 0, none⟩ _ D' (by show D' ≠ lb; omega)).trans HKD.out)
    have hWO : OwnI ((W.setCell ⟨lb, 0, none⟩ (.slice pv (depL rs gs a).length cv)).setCell ⟨eb, 0, none⟩ (.int .i64 0)) (w3.heap.size + 2 + 1) (.slice pv (depL rs gs a).length cv) (depL rs gs a) := ownI_keep (ownI_keep HO.out (gr_set (gr_refl _ (some lb))) (fun r e => .inl (by cases e; omega))) (gr_set (gr_refl _ (some eb))) (fun r e => .inl (by cases e; omega))
    have hWB : Below w.heap.size w ((W.setCell ⟨lb, 0, none⟩ (.slice pv (depL rs gs a).length cv)).setCell ⟨eb, 0, none⟩ (.int .i64 0)) := (HBW.out.setCell (p := ⟨lb, 0, none⟩) (by show w.heap.size ≤ lb; omega) _).setCell (p := ⟨eb, 0, none⟩) (by show w.heap.size ≤ eb; omega) _
    clear x0 y0 x1 y1
    generalize World.setCell (World.setCell W _ _) _ _ = W5 at hWl hWe hWK hWO hWB ⊢
    refine ⟨by simp, .inl ⟨_, _, rfl, run_takeDeferred hWK, ?_⟩⟩
    have e1 := cell_kept hWl.one (grownBy_putObj' _ D' (.deferred none)) (fun r e => by cases e; exact ⟨_, hWK, rfl⟩)
    have e2 := cell_kept hWe.one (grownBy_putObj' _ D' (.deferred none)) (fun r e => by cases e; exact ⟨_, hWK, rfl⟩)
    have hME : momE rs gs a b = 0 := momE_ok hE.out (by unfold badB; rw [d1, d2, d3]; rfl) (by rw [HMO.out]; exact HPL.out)
    refine ⟨.tuple #[.slice pv (depL rs gs a).length cv, .int .i64 0], ?_, _, by rw [hME], by rw [momR_ok hME, HMO.out]; exact ownI_mono (ownI_keep hWO (grownBy_putObj' _ D' (.deferred none)) (fun r e => .inr (by cases e; exact ⟨_, hWK, rfl⟩))) (by omega), hWB.trans (belowK_b (w := w) (Nat.le_refl _) _ D' _ _ (by omega) hWK rfl rfl)⟩
    simp [results, Try.results10, go_sem, e1, e2]
  case stop =>
    rintro D' c' xs W hD hpre h hK
    rcases h with ⟨rfl, pre, x, rfl, hbx, ⟨hp1, hp2⟩, ⟨v, hL, hO⟩, hU, hE0, hB⟩ | ⟨rfl, pre, x, rfl, hbx, hp1, hp2, hL, hE0, hB⟩
    · obtain ⟨pv, cv, hv, hz, hz1, hz2, hz3⟩ := ownI_src hO
      subst hv
      have HMO := Lib.hid (show momL rs gs a b = pre by
        obtain ⟨rest, hrest⟩ := hpre
        unfold momL
        rw [← hrest, List.append_assoc]
        exact takeWhile_cut (fun t ht => decide_eq_true (hp1 t ht)) (decide_eq_false (by omega)))
      have HO := Lib.hid hO
      have HL := Lib.hid hL
      have HE0 := Lib.hid hE0
      have HBW := Lib.hid hB
      have HKD := Lib.hid hK
      have HPL := Lib.hid hp2
      have x0 := HL.out.one
      have y0 := HL.out.frozen 0
      have x1 := HE0.out.one
      have y1 := HE0.out.frozen 0
      have hlt := HE0.out.lt
      clear hz hz3 hO hL hU hE0 hB hp1 hK hp2 hpre
      gi_wp2
      go_wp2_with fail
      have hVl := Blk.set HL.out 0 (.slice pv (pre).length cv)
      have hWl : Blk ((W.setCell ⟨lb, 0, none⟩ (.slice pv (pre).length cv)).setCell ⟨eb, 0, none⟩ (.int .i64 0)) lb #[.slice pv (pre).length cv] 25 := hVl.other 0 _ (by omega)
      have hWe : Blk ((W.setCell ⟨lb, 0, none⟩ (.slice pv (pre).length cv)).setCell ⟨eb, 0, none⟩ (.int .i64 0)) eb #[.int .i64 0] 26 := (HE0.out.other 0 _ (by omega)).set 0 _
      have hWK : ((W.setCell ⟨lb, 0, none⟩ (.slice pv (pre).length cv)).setCell ⟨eb, 0, none⟩ (.int .i64 0)).heap[D']? = some (.deferred (some [])) := (Below.heap_setCell _ ⟨eb, 0, none⟩ _ D' (by show D' ≠ eb; omega)).trans ((Below.heap_setCell _ ⟨lb, 0, none⟩ _ D' (by show D' ≠ lb; omega)).trans HKD.out)
      have hWO : OwnI ((W.setCell ⟨lb, 0, none⟩ (.slice pv (pre).length cv)).setCell ⟨eb, 0, none⟩ (.int .i64 0)) (w3.heap.size + 2 + 1) (.slice pv (pre).length cv) (pre) := ownI_keep (ownI_keep HO.out (gr_set (gr_refl _ (some lb))) (fun r e => .inl (by cases e; omega))) (gr_set (gr_refl _ (some eb))) (fun r e => .inl (by cases e; omega))
      have hWB : Below w.heap.size w ((W.setCell ⟨lb, 0, none⟩ (.slice pv (pre).length cv)).setCell ⟨eb, 0, none⟩ (.int .i64 0)) := (HBW.out.setCell (p := ⟨lb, 0, none⟩) (by show w.heap.size ≤ lb; omega) _).setCell (p := ⟨eb, 0, none⟩) (by show w.heap.size ≤ eb; omega) _
      clear x0 y0 x1 y1
      generalize World.setCell (World.setCell W _ _) _ _ = W5 at hWl hWe hWK hWO hWB ⊢
      refine ⟨by simp, .inl ⟨_, _, rfl, run_takeDeferred hWK, ?_⟩⟩
      have e1 := cell_kept hWl.one (grownBy_putObj' _ D' (.deferred none)) (fun r e => by cases e; exact ⟨_, hWK, rfl⟩)
      have e2 := cell_kept hWe.one (grownBy_putObj' _ D' (.deferred none)) (fun r e => by cases e; exact ⟨_, hWK, rfl⟩)
      have hME : momE rs gs a b = 0 := momE_ok hE.out (by unfold badB; rw [d1, d2, d3]; rfl) (by rw [HMO.out]; exact HPL.out)
      refine ⟨.tuple #[.slice pv (pre).length cv, .int .i64 0], ?_, _, by rw [hME], by rw [momR_ok hME, HMO.out]; exact ownI_mono (ownI_keep hWO (grownBy_putObj' _ D' (.deferred none)) (fun r e => .inr (by cases e; exact ⟨_, hWK, rfl⟩))) (by omega), hWB.trans (belowK_b (w := w) (Nat.le_refl _) _ D' _ _ (by omega) hWK rfl rfl)⟩
      simp [results, Try.results10, go_sem, e1, e2]
    · have HMO := Lib.hid (show 2000 < (momL rs gs a b).length by
        obtain ⟨rest, hrest⟩ := hpre
        unfold momL
        rw [← hrest]
        have := takeWhile_more (p := fun t => decide (t < b)) (pre := pre ++ [x]) (rest := rest) (fun t ht => (List.mem_append.1 ht).elim (fun h => decide_eq_true (hp1 t h)) (fun h => by rw [List.mem_singleton.1 h]; exact decide_eq_true hbx))
        rw [List.length_append, List.length_singleton] at this
        omega)
      have HL := Lib.hid hL
      have HE0 := Lib.hid hE0
      have HBW := Lib.hid hB
      have HKD := Lib.hid hK
      clear hL hE0 hB hp1 hK hp2 hpre
      gi_wp2
      refine ⟨by simp, .inl ⟨_, _, rfl, run_takeDeferred HKD.out, ?_⟩⟩
      have e1 := cell_kept HL.out.one (grownBy_putObj' _ D' (.deferred none)) (fun r e => by cases e; exact ⟨_, HKD.out, rfl⟩)
      have e2 := cell_kept HE0.out.one (grownBy_putObj' _ D' (.deferred none)) (fun r e => by cases e; exact ⟨_, HKD.out, rfl⟩)
      have hME : momE rs gs a b = 2 := momE_big hE.out (by unfold badB; rw [d1, d2, d3]; rfl) HMO.out
      refine ⟨.tuple #[.slice none 0 0, .int .i64 2], ?_, _, by rw [hME], by rw [momR_nil (by rw [hME]; decide)]; exact World.ownsRow_nil _ _ _ _, HBW.out.trans (belowK_b (w := w) (Nat.le_refl _) _ D' _ _ (by omega) HKD.out rfl rfl)⟩
      simp [results, Try.results10, go_sem, e1, e2]
theorem cmom_is (p : Option Addr) (n c : Nat) (rs : List Rl) (q : Option Addr) (m d : Nat) (gs : List Gp) (a b : Int) (w : World) (hr : Hid (RulesV w p n c rs)) (hg : Hid (GapsV w q m d gs)) : Calls Try.prog 10 #[.slice p n c, .slice q m d, .int .i64 a, .int .i64 b] w fun e w' => ∃ v, e = .returned (.tuple #[v, .int .i64 (momE rs gs a b)]) ∧ OwnI w' w.heap.size v (momR rs gs a b) ∧ Below w.heap.size w w' := by
  have nil : ∀ (E : Int), momE rs gs a b = E → ¬ E = 0 → (Calls Try.prog 10 #[.slice p n c, .slice q m d, .int .i64 a, .int .i64 b] w fun e w' => e = .returned (.tuple #[.slice none 0 0, .int .i64 E]) ∧ Below w.heap.size w w') → Calls Try.prog 10 #[.slice p n c, .slice q m d, .int .i64 a, .int .i64 b] w fun e w' => ∃ v, e = .returned (.tuple #[v, .int .i64 (momE rs gs a b)]) ∧ OwnI w' w.heap.size v (momR rs gs a b) ∧ Below w.heap.size w w' := fun E h1 h2 h => h.mono (by
    rintro e w' ⟨rfl, hb⟩
    exact ⟨_, by rw [h1], by rw [momR_nil (by rw [h1]; exact h2)]; exact World.ownsRow_nil _ _ _ _, hb⟩)
  by_cases hE : chkE rs gs = 0
  · by_cases h0 : a < 0
    · exact nil 1 (momE_bad hE (by unfold badB; simp [h0])) (by omega) (cmom_neg p n c rs q m d gs a b w hr hg (Lib.hid hE) h0)
    by_cases h1 : b < a
    · exact nil 1 (momE_bad hE (by unfold badB; simp [h1])) (by omega) (cmom_ord p n c rs q m d gs a b w hr hg (Lib.hid hE) (by omega) h1)
    by_cases h2 : 2097152 < b
    · exact nil 1 (momE_bad hE (by unfold badB; simp [h2])) (by omega) (cmom_end p n c rs q m d gs a b w hr hg (Lib.hid hE) (by omega) (by omega) h2)
    exact cmom_run p n c rs q m d gs a b w hr hg (Lib.hid hE) (by omega) (by omega) (by omega)
  · exact nil _ (momE_chk hE) hE (cmom_chk p n c rs q m d gs a b w hr hg _ (Lib.hid rfl) hE)
end Go.Proofs.Ytilokkkodocoiaa
