/- Arguments that are lists of rules and of gaps. -/
import Derived.Test.YtilokkkodocoiaaCalSan
import Derived.Deep.Matrix
import Derived.Deep.SlicePairs
import Derived.Deep.Fields
import Derived.Lib.SmallJoins
namespace Go.Proofs.Ytilokkkodocoiaa
open Go.ChangeShapes Go.WideShapes Go.ChangeAt Go.RowKit Go.WideElems Go.Deep Go.Joins
set_option linter.unusedVariables false
set_option linter.unusedSimpArgs false

theorem add_noneC (b off k : Nat) : (⟨b, off, none⟩ : Addr).add k = ⟨b, off + k, none⟩ := by
  unfold Addr.add; split
  · rename_i h; subst h; rfl
  · rfl
theorem add_addC (a : Addr) (i j : Nat) : (a.add i).add j = a.add (i + j) := by
  obtain ⟨b, o, sp⟩ := a
  by_cases hi : i = 0
  · subst hi; simp [Addr.add]
  · by_cases hj : j = 0
    · subst hj; simp [Addr.add]
    · have : i + j ≠ 0 := by omega
      simp [Addr.add, hi, hj, this, Nat.add_assoc]
theorem maxlC : maxLen ≤ 9223372036854775807 := by decide
theorem choose_ltC {α : Type} [Inhabited α] {n : Nat} {p : Nat → α → Prop} (h : ∀ i, i < n → ∃ y, p i y) : ∃ f : Nat → α, ∀ i, i < n → p i (f i) :=
  ⟨fun i => if hi : i < n then (h i hi).choose else default, fun i hi => by dsimp only; rw [dif_pos hi]; exact (h i hi).choose_spec⟩
section
variable {H : Type} {enc : TypeId × Value → H} {w : World} {base : Nat} {held : Bool}
set_option maxRecDepth 100000 in
theorem rule_cells {fuel : Nat} {cs : List Value} {x : DataW H × List MemPlace} (h : DataW.trod enc Try.prog w base (fun _ => true) held fuel 40 cs = some x) (hl : cs.length = 3) : ∃ r : Rl, cs = [.int .i64 r.1, .int .i64 r.2.1, .int .i64 r.2.2] ∧ inI r.1 ∧ inI r.2.1 ∧ inI r.2.2 := by
  obtain ⟨g0, g1, g2, hG, s0, s1, s2, o0, o1, o2⟩ : ∃ g0 g1 g2 : Field, Try.prog.underlying 40 = some (.struct #[g0, g1, g2]) ∧ g0.type = 3 ∧ g1.type = 3 ∧ g2.type = 3 ∧ g0.offset = 0 ∧ g1.offset = 1 ∧ g2.offset = 2 := ⟨_, _, _, Try.underlying40, rfl, rfl, rfl, rfl, rfl, rfl⟩
  have cI : Try.prog.cellsOf 3 = 1 := by kernel_rfl
  obtain ⟨xs, k, hk, hxy, _, hxl, hff⟩ := DataW.trod_struct hG h
  match xs, hxl with
  | [y0, y1, y2], _ =>
    have u0 := hff 0 g0 rfl
    have u1 := hff 1 g1 rfl
    have u2 := hff 2 g2 rfl
    rw [o0, s0, cI, List.drop_zero] at u0
    rw [o1, s1, cI] at u1
    rw [o2, s2, cI] at u2
    match cs, hl with
    | [c0, c1, c2], _ =>
      obtain ⟨n0, q0, _, z0⟩ := DataW.trod_int Try.underlying3 u0
      obtain ⟨n1, q1, _, z1⟩ := DataW.trod_int Try.underlying3 u1
      obtain ⟨n2, q2, _, z2⟩ := DataW.trod_int Try.underlying3 u2
      simp at q0 q1 q2
      subst q0 q1 q2
      exact ⟨(n0, n1, n2), rfl, bounds_i64 z0, bounds_i64 z1, bounds_i64 z2⟩
theorem gap_cells {fuel : Nat} {cs : List Value} {x : DataW H × List MemPlace} (h : DataW.trod enc Try.prog w base (fun _ => true) held fuel 37 cs = some x) (hl : cs.length = 2) : ∃ r : Gp, cs = [.int .i64 r.1, .int .i64 r.2] ∧ inI r.1 ∧ inI r.2 := by
  obtain ⟨g0, g1, hG, s0, s1, o0, o1⟩ : ∃ g0 g1 : Field, Try.prog.underlying 37 = some (.struct #[g0, g1]) ∧ g0.type = 3 ∧ g1.type = 3 ∧ g0.offset = 0 ∧ g1.offset = 1 := ⟨_, _, Try.underlying37, rfl, rfl, rfl, rfl⟩
  have cI : Try.prog.cellsOf 3 = 1 := by kernel_rfl
  obtain ⟨xs, k, hk, hxy, _, hxl, hff⟩ := DataW.trod_struct hG h
  match xs, hxl with
  | [y0, y1], _ =>
    have u0 := hff 0 g0 rfl
    have u1 := hff 1 g1 rfl
    rw [o0, s0, cI, List.drop_zero] at u0
    rw [o1, s1, cI] at u1
    match cs, hl with
    | [c0, c1], _ =>
      obtain ⟨n0, q0, _, z0⟩ := DataW.trod_int Try.underlying3 u0
      obtain ⟨n1, q1, _, z1⟩ := DataW.trod_int Try.underlying3 u1
      simp at q0 q1
      subst q0 q1
      exact ⟨(n0, n1), rfl, bounds_i64 z0, bounds_i64 z1⟩
theorem open_rules {r : Reach} {b0 : Nat} {v : Value} {d : DataW H} {ps : List MemPlace}
    (hv : Value.okWide Try.prog w r b0 22 v) (hd : DataW.Trod enc Try.prog w base (fun _ => true) held 22 v d ps) : ∃ p n cap rs, v = .slice p n cap ∧ RulesV w p n cap rs := by
  have ce : Try.prog.cellsOf 40 = 3 := by kernel_rfl
  obtain ⟨a0, n, cap, rfl⟩ := okWide_slice Try.underlying22 hv
  obtain ⟨fuel, hf⟩ := hd
  have hl := maxlC
  rcases open_slice Try.underlying22 hf with ⟨hcs, _⟩ | ⟨a, len, cap', m, q, D, Pl, hcs, hb, h1, h2, hmm, _, hx⟩
  · simp [Value.cells] at hcs
    obtain ⟨rfl, rfl, rfl⟩ := hcs
    exact ⟨none, 0, 0, [], rfl, ⟨rfl, by omega, by omega, fun _ => ⟨rfl, rfl⟩, by simp, .inl rfl⟩⟩
  · simp [Value.cells] at hcs
    obtain ⟨rfl, rfl, rfl⟩ := hcs
    simp only [if_true] at hmm
    have each : ∀ i, i < n → ∃ y : Rl, (∀ j u, [.int .i64 y.1, .int .i64 y.2.1, .int .i64 y.2.2][j]? = some u → w.cell? (a.add (i * 3 + j)) = some u) ∧ (inI y.1 ∧ inI y.2.1 ∧ inI y.2.2) := by
      intro i hil
      obtain ⟨cs', e1, e2⟩ := hx i (by omega)
      rw [ce] at e1
      obtain ⟨_, hlen, hcell⟩ := World.cells?_some e1
      obtain ⟨y, rfl, hok⟩ := rule_cells e2 hlen
      refine ⟨y, fun j u hj => ?_, hok⟩
      have hj35 : j < 3 := by
        have h3 := (List.getElem?_eq_some_iff.1 hj).1
        exact h3
      have e0 := hcell j hj35
      rw [add_addC] at e0
      rw [e0]
      exact hj
    obtain ⟨y, hy⟩ := choose_ltC each
    refine ⟨some a, n, cap, (List.range n).map y, rfl, ⟨by simp, by omega, by omega, (fun e => by cases e), ?_, ?_⟩⟩
    · intro r hr
      obtain ⟨i, hi', rfl⟩ := List.mem_map.1 hr
      exact (hy i (List.mem_range.1 hi')).2
    · by_cases h0 : n = 0
      · exact .inl h0
      · right
        obtain ⟨b, off, spot⟩ := a
        have hc0 := (hy 0 (by omega)).1 0 _ rfl
        have hs : spot = none := by
          have := World.cell?_spot hc0
          simpa [Addr.add] using this
        subst hs
        rw [add_noneC] at hc0
        refine ⟨b, off, rfl, lt_of_cell hc0, fun j hj => ?_⟩
        simp only [List.length_map, List.length_range] at hj
        rw [show ((List.range n).map y).getD j rl0 = y j by simp [hj]]
        have k := fun i u => (hy j hj).1 i u
        simp only [add_noneC] at k
        exact ⟨by have := k 0 _ rfl; rwa [Nat.add_zero] at this, by have := k 1 _ rfl; rwa [← Nat.add_assoc] at this, by have := k 2 _ rfl; rwa [← Nat.add_assoc] at this⟩
theorem open_gaps {r : Reach} {b0 : Nat} {v : Value} {d : DataW H} {ps : List MemPlace}
    (hv : Value.okWide Try.prog w r b0 23 v) (hd : DataW.Trod enc Try.prog w base (fun _ => true) held 23 v d ps) : ∃ p n cap rs, v = .slice p n cap ∧ GapsV w p n cap rs := by
  have ce : Try.prog.cellsOf 37 = 2 := by kernel_rfl
  obtain ⟨a0, n, cap, rfl⟩ := okWide_slice Try.underlying23 hv
  obtain ⟨fuel, hf⟩ := hd
  have hl := maxlC
  rcases open_slice Try.underlying23 hf with ⟨hcs, _⟩ | ⟨a, len, cap', m, q, D, Pl, hcs, hb, h1, h2, hmm, _, hx⟩
  · simp [Value.cells] at hcs
    obtain ⟨rfl, rfl, rfl⟩ := hcs
    exact ⟨none, 0, 0, [], rfl, ⟨rfl, by omega, by omega, fun _ => ⟨rfl, rfl⟩, by simp, .inl rfl⟩⟩
  · simp [Value.cells] at hcs
    obtain ⟨rfl, rfl, rfl⟩ := hcs
    simp only [if_true] at hmm
    have each : ∀ i, i < n → ∃ y : Gp, (∀ j u, [.int .i64 y.1, .int .i64 y.2][j]? = some u → w.cell? (a.add (i * 2 + j)) = some u) ∧ (inI y.1 ∧ inI y.2) := by
      intro i hil
      obtain ⟨cs', e1, e2⟩ := hx i (by omega)
      rw [ce] at e1
      obtain ⟨_, hlen, hcell⟩ := World.cells?_some e1
      obtain ⟨y, rfl, hok⟩ := gap_cells e2 hlen
      refine ⟨y, fun j u hj => ?_, hok⟩
      have hj35 : j < 2 := by
        have h3 := (List.getElem?_eq_some_iff.1 hj).1
        exact h3
      have e0 := hcell j hj35
      rw [add_addC] at e0
      rw [e0]
      exact hj
    obtain ⟨y, hy⟩ := choose_ltC each
    refine ⟨some a, n, cap, (List.range n).map y, rfl, ⟨by simp, by omega, by omega, (fun e => by cases e), ?_, ?_⟩⟩
    · intro r hr
      obtain ⟨i, hi', rfl⟩ := List.mem_map.1 hr
      exact (hy i (List.mem_range.1 hi')).2
    · by_cases h0 : n = 0
      · exact .inl h0
      · right
        obtain ⟨b, off, spot⟩ := a
        have hc0 := (hy 0 (by omega)).1 0 _ rfl
        have hs : spot = none := by
          have := World.cell?_spot hc0
          simpa [Addr.add] using this
        subst hs
        rw [add_noneC] at hc0
        refine ⟨b, off, rfl, lt_of_cell hc0, fun j hj => ?_⟩
        simp only [List.length_map, List.length_range] at hj
        rw [show ((List.range n).map y).getD j gp0 = y j by simp [hj]]
        have k := fun i u => (hy j hj).1 i u
        simp only [add_noneC] at k
        exact ⟨by have := k 0 _ rfl; rwa [Nat.add_zero] at this, by have := k 1 _ rfl; rwa [← Nat.add_assoc] at this⟩
end
end Go.Proofs.Ytilokkkodocoiaa
