/- Package elgamal: what functions return, in plain numbers. -/
import Derived.Deep.RegionHeld3
import Derived.Test.YtpjobllfiimdkaaGreatDoorGroupE
namespace Go.Proofs.YtpjobllfiimdkaaGreatDoor
open Go.RowKit
set_option linter.unusedVariables false

set_option maxHeartbeats 400000 in
theorem emul_any (a b : Int) (w : World) :
    Calls Tryz.prog 33 #[.int .i64 a, .int .i64 b] w fun e w' => e = .returned (.int .i64 (mulZ a b)) ∧ Below w.heap.size w w' := by
  go_enter Tryz.func33, Tryz.ntmps33
  go_wp2_with (go_at_call 62; refine (gMul_any _ _ _).mono ?_; rintro e w1 ⟨rfl, hb⟩)
  go_ret
  exact ⟨rfl, hb⟩

set_option maxHeartbeats 400000 in
theorem epow_any (a n : Int) (w : World) :
    Calls Tryz.prog 34 #[.int .i64 a, .int .i64 n] w fun e w' => e = .returned (.int .i64 (powZ a n)) ∧ Below w.heap.size w w' := by
  go_enter Tryz.func34, Tryz.ntmps34
  go_wp2_with (go_at_call 39; refine (gPow_any _ _ _).mono ?_; rintro e w1 ⟨rfl, hb⟩)
  go_ret
  exact ⟨rfl, hb⟩

/-- what a cell holds -/
def rc (w : World) (a : Addr) : Value := (w.cell? a).getD undef
theorem rc_some {w : World} {a : Addr} (h : ∃ v, w.cell? a = some v) : w.cell? a = some (rc w a) := by
  obtain ⟨v, hv⟩ := h; unfold rc; rw [hv]; rfl

/-- a result of two cells in block b, which may be written; nothing else has turned below B since W -/
def Res (W : World) (B b : Nat) (w' : World) : Prop :=
  Below B W w' ∧ W.heap.size ≤ w'.heap.size ∧ (∃ v, w'.cell? ⟨b, 0, none⟩ = some v) ∧ (∃ v, w'.cell? ⟨b, 1, none⟩ = some v) ∧ w'.frozen? ⟨b, 0, none⟩ = false ∧ w'.frozen? ⟨b, 1, none⟩ = false

theorem Res.drew {W : World} {B b : Nat} {w' : World} (h : Res W B b w') : Res W B b w'.drew := ⟨h.1.drew, h.2⟩
theorem Res.call {W : World} {B b : Nat} {w' w'' : World} (h : Res W B b w') (hB : B ≤ W.heap.size) (hb : b < W.heap.size) (k : Below w'.heap.size w' w'') : Res W B b w'' := by
  obtain ⟨h1, h2, h3, h4, h5, h6⟩ := h
  have c := fun o => k.cell (p := ⟨b, o, none⟩) (show b < w'.heap.size by omega)
  have f := fun o => k.frozen (p := ⟨b, o, none⟩) (show b < w'.heap.size by omega)
  exact ⟨h1.trans (k.mono (by omega)), Nat.le_trans h2 k.size, by rw [c]; exact h3, by rw [c]; exact h4, by rw [f]; exact h5, by rw [f]; exact h6⟩
theorem Res.store {W : World} {B b : Nat} {w' : World} (h : Res W B b w') (hB : B ≤ b) (x y : Value) : Res W B b ((w'.setCell ⟨b, 0, none⟩ x).setCell ⟨b, 1, none⟩ y) := by
  obtain ⟨h1, h2, ⟨v3, h3⟩, ⟨v4, h4⟩, h5, h6⟩ := h
  have e : ∀ (u : World) (p : Addr) (z : Value), (u.setCell p z).heap.size = u.heap.size := fun u p z => by simp [World.setCell]
  refine ⟨(h1.setCell (p := ⟨b, 0, none⟩) hB _).setCell (p := ⟨b, 1, none⟩) hB _, by rw [e, e]; exact h2, ?_, ?_, by rw [World.frozen?_setCell, World.frozen?_setCell]; exact h5, by rw [World.frozen?_setCell, World.frozen?_setCell]; exact h6⟩
  · obtain ⟨u, hu⟩ := cell?_setCell_some (w := w') (p := ⟨b, 0, none⟩) (x := x) (q := ⟨b, 0, none⟩) (v := v3) h3
    exact (cell?_setCell_some (p := ⟨b, 1, none⟩) (x := y) hu)
  · obtain ⟨u, hu⟩ := cell?_setCell_some (w := w') (p := ⟨b, 0, none⟩) (x := x) (q := ⟨b, 1, none⟩) (v := v4) h4
    exact (cell?_setCell_some (p := ⟨b, 1, none⟩) (x := y) hu)

theorem set_none {w : World} {p : Addr} {x : Value} (h : w.cell? p = none) : (w.setCell p x).cell? p = none := by
  unfold World.cell? World.setCell at *
  simp only [Array.getElem?_modify, if_true]
  cases hc : w.heap[p.block]? with
  | none => rfl
  | some o =>
    rw [hc] at h
    cases o with
    | cells c t f =>
      simp only [Option.map_some] at h ⊢
      split at h
      · rename_i hs; simp [hs]
      · rename_i hs
        simp only [hs]
        simp only [Bool.false_eq_true, if_false]
        rw [Array.getElem?_setIfInBounds]
        have := Array.getElem?_eq_none_iff.1 h
        split <;> first | (rw [if_neg (by omega)]) | exact h | (split <;> first | omega | rfl | exact h)
    | _ => rfl

theorem rc_set0 {u : World} {b : Nat} {x y : Value} (h : ∃ v, ((u.setCell ⟨b, 0, none⟩ x).setCell ⟨b, 1, none⟩ y).cell? ⟨b, 0, none⟩ = some v) : rc ((u.setCell ⟨b, 0, none⟩ x).setCell ⟨b, 1, none⟩ y) ⟨b, 0, none⟩ = x := by
  obtain ⟨v, hv⟩ := h
  have hn : (⟨b, 1, none⟩ : Addr) ≠ ⟨b, 0, none⟩ := by simp
  rw [World.cell?_setCell_other _ _ _ _ hn] at hv
  unfold rc
  rw [World.cell?_setCell_other _ _ _ _ hn]
  cases hc : u.cell? ⟨b, 0, none⟩ with
  | none => rw [set_none hc] at hv; cases hv
  | some z => rw [World.cell?_setCell_same' _ _ _ (by rw [hc]; rfl)]; rfl
theorem rc_set1 {u : World} {b : Nat} {x y : Value} (h : ∃ v, ((u.setCell ⟨b, 0, none⟩ x).setCell ⟨b, 1, none⟩ y).cell? ⟨b, 1, none⟩ = some v) : rc ((u.setCell ⟨b, 0, none⟩ x).setCell ⟨b, 1, none⟩ y) ⟨b, 1, none⟩ = y := by
  obtain ⟨v, hv⟩ := h
  unfold rc
  cases hc : (u.setCell ⟨b, 0, none⟩ x).cell? ⟨b, 1, none⟩ with
  | none => rw [set_none hc] at hv; cases hv
  | some z => rw [World.cell?_setCell_same' _ _ _ (by rw [hc]; rfl)]; rfl
theorem Res.val {W u : World} {B b : Nat} {x y : Value} (h : Res W B b ((u.setCell ⟨b, 0, none⟩ x).setCell ⟨b, 1, none⟩ y)) :
    rc ((u.setCell ⟨b, 0, none⟩ x).setCell ⟨b, 1, none⟩ y) ⟨b, 0, none⟩ = x ∧ rc ((u.setCell ⟨b, 0, none⟩ x).setCell ⟨b, 1, none⟩ y) ⟨b, 1, none⟩ = y :=
  ⟨rc_set0 h.2.2.1, rc_set1 h.2.2.2.1⟩

set_option maxRecDepth 100000 in
set_option maxHeartbeats 1000000 in
theorem mask1_any (i br bk : Nat) (A B r k : Int) (w : World) (hi : i < 3) (hr : w.cell? ⟨br, i, none⟩ = some (.int .i64 r)) (hk : w.cell? ⟨bk, 0, none⟩ = some (.int .i64 k)) (hbr : br < w.heap.size) (hbk : bk < w.heap.size) :
    Calls Tryz.prog 88 #[.int .i64 i, .agg #[.int .i64 A, .int .i64 B], .pointer (some ⟨br, 0, none⟩), .pointer (some ⟨bk, 0, none⟩)] w
      fun e w' => e = .returned (.agg #[.int .i64 (mulZ A (powZ 4 r)), .int .i64 (mulZ B (powZ k r))]) ∧ Below w.heap.size w w' := by
  have hi0 : (0 : Int) ≤ (i : Int) := by omega
  have hi3 : (i : Int) < 3 := by omega
  clear hi
  go_enter Tryz.func88, Tryz.ntmps88
  go_wp2
  obtain ⟨W, hW⟩ : ∃ W, (w.alloc (.cells #[.int .i64 A, .int .i64 B] 25)).alloc (.cells #[.int .i64 0, .int .i64 0] 25) = W := ⟨_, rfl⟩
  have hB : Below w.heap.size w W := by rw [← hW]; exact (bel_alloc1 _ _).alloc (by simp) _
  have hz : W.heap.size = w.heap.size + 2 := by rw [← hW]; simp
  have c1 : W.cell? ⟨w.heap.size, 0, none⟩ = some (.int .i64 A) := by rw [← hW]; simp
  have c2 : W.cell? ⟨w.heap.size, 1, none⟩ = some (.int .i64 B) := by rw [← hW]; simp
  have hres : Res W (w.heap.size + 1) (w.heap.size + 1) W := by rw [← hW]; exact ⟨Below.refl _ _, Nat.le_refl _, ⟨_, by simp; rfl⟩, ⟨_, by simp; rfl⟩, by simp, by simp⟩
  have c3 : W.cell? ⟨br, i, none⟩ = some (.int .i64 r) := (hB.cell (p := ⟨br, i, none⟩) hbr).trans hr
  have c4 : W.cell? ⟨bk, 0, none⟩ = some (.int .i64 k) := (hB.cell (p := ⟨bk, 0, none⟩) hbk).trans hk
  have HALL : Hid (∀ w' : World, Res W (w.heap.size + 1) (w.heap.size + 1) w' → (Res W (w.heap.size + 1) (w.heap.size + 1) w' ∧ w'.cell? ⟨w.heap.size, 0, none⟩ = some (.int .i64 A) ∧ w'.cell? ⟨w.heap.size, 1, none⟩ = some (.int .i64 B) ∧ w'.cell? ⟨br, i, none⟩ = some (.int .i64 r) ∧ w'.cell? ⟨bk, 0, none⟩ = some (.int .i64 k) ∧ w'.cell? ⟨w.heap.size + 1, 0, none⟩ = some (rc w' ⟨w.heap.size + 1, 0, none⟩) ∧ w'.cell? ⟨w.heap.size + 1, 1, none⟩ = some (rc w' ⟨w.heap.size + 1, 1, none⟩) ∧ w'.frozen? ⟨w.heap.size + 1, 0, none⟩ = false ∧ w'.frozen? ⟨w.heap.size + 1, 1, none⟩ = false)) :=
    Lib.hid fun w' h => ⟨h, (h.1.cell (p := ⟨w.heap.size, 0, none⟩) (by simp)).trans c1, (h.1.cell (p := ⟨w.heap.size, 1, none⟩) (by simp)).trans c2, (h.1.cell (p := ⟨br, i, none⟩) (by simp; omega)).trans c3, (h.1.cell (p := ⟨bk, 0, none⟩) (by simp; omega)).trans c4, rc_some h.2.2.1, rc_some h.2.2.2.1, h.2.2.2.2.1, h.2.2.2.2.2⟩
  have HZ1 : Hid (w.heap.size + 1 ≤ W.heap.size) := Lib.hid (by omega)
  have HZ2 : Hid (w.heap.size + 1 < W.heap.size) := Lib.hid (by omega)
  have HBW := Lib.hid hB
  have HR := Lib.hid hres
  rw [hW]
  clear hW hz hB c1 c2 c3 c4 hr hk hres
  go_region_held3 (fun w' => (Res W (w.heap.size + 1) (w.heap.size + 1) w' ∧ w'.cell? ⟨w.heap.size, 0, none⟩ = some (.int .i64 A) ∧ w'.cell? ⟨w.heap.size, 1, none⟩ = some (.int .i64 B) ∧ w'.cell? ⟨br, i, none⟩ = some (.int .i64 r) ∧ w'.cell? ⟨bk, 0, none⟩ = some (.int .i64 k) ∧ w'.cell? ⟨w.heap.size + 1, 0, none⟩ = some (rc w' ⟨w.heap.size + 1, 0, none⟩) ∧ w'.cell? ⟨w.heap.size + 1, 1, none⟩ = some (rc w' ⟨w.heap.size + 1, 1, none⟩) ∧ w'.frozen? ⟨w.heap.size + 1, 0, none⟩ = false ∧ w'.frozen? ⟨w.heap.size + 1, 1, none⟩ = false))
    (first | (exact HALL.out _ HR.out.drew) | (exact HALL.out _ (Res.call (And.left (by assumption)) HZ1.out HZ2.out (by assumption))) | (exact HALL.out _ (Res.store (And.left (by assumption)) (Nat.le_refl _) _ _)))
    (first | (go_at_call 34; refine (epow_any _ _ _).mono ?_; rintro e w1 ⟨rfl, hb⟩) | (go_at_call 33; refine (emul_any _ _ _).mono ?_; rintro e w1 ⟨rfl, hb⟩))
  go_wp2
  refine bodyPost_ret (v := .agg #[.int .i64 (mulZ A (powZ 4 r)), .int .i64 (mulZ B (powZ k r))]) ?_ rfl ⟨rfl, ?_⟩
  · simp [results, Tryz.f88, go_sem, *]
    exact Res.val (And.left (by assumption))
  · refine HBW.out.trans (Below.mono (And.left (And.left (b := _ ∧ _) (by assumption) : Res W (w.heap.size + 1) (w.heap.size + 1) _)) (by simp))

set_option maxRecDepth 100000 in
set_option maxHeartbeats 1000000 in
theorem say1_any (i bw : Nat) (A B n : Int) (w : World) (hi : i < 3) (hn : w.cell? ⟨bw, i, none⟩ = some (.int .i64 n)) (hbw : bw < w.heap.size) :
    Calls Tryz.prog 86 #[.int .i64 i, .agg #[.int .i64 A, .int .i64 B], .pointer (some ⟨bw, 0, none⟩)] w
      fun e w' => e = .returned (.agg #[.int .i64 1, .int .i64 (elmZ n)]) ∧ Below w.heap.size w w' := by
  have hi0 : (0 : Int) ≤ (i : Int) := by omega
  have hi3 : (i : Int) < 3 := by omega
  clear hi
  go_enter Tryz.func86, Tryz.ntmps86
  go_wp2_with (go_at_call 87; refine (gElement_any _ _).mono ?_; rintro e w' ⟨rfl, rfl⟩)
  refine bodyPost_ret (v := .agg #[.int .i64 1, .int .i64 (elmZ n)]) ?_ rfl ⟨rfl, ?_⟩
  · simp [results, Tryz.f86, go_sem]
  · exact (bel_alloc1 _ _).alloc (by simp) _
end Go.Proofs.YtpjobllfiimdkaaGreatDoor
