/- An argument that is a disk. -/
import Derived.Test.YtackklbifppfeaaDsk
import Derived.Deep.Matrix
import Derived.Deep.SlicePairs
import Derived.Deep.Fields
import Derived.Lib.SmallJoins
namespace Go.Proofs.Ytackklbifppfeaa
open Go.ChangeShapes Go.WideShapes Go.ChangeAt Go.RowKit Go.Deep Go.Joins
set_option linter.unusedVariables false
set_option linter.unusedSimpArgs false

theorem add_noneD (b off k : Nat) : (⟨b, off, none⟩ : Addr).add k = ⟨b, off + k, none⟩ := by
  unfold Addr.add; split
  · rename_i h; subst h; rfl
  · rfl
theorem maxl : maxLen ≤ 9223372036854775807 := by decide
theorem row_ok {w : World} {A : Option Addr} {L C : Nat} {Z : List Int} (h1 : L ≤ C) (h2 : C ≤ maxLen) (h3 : Z.length = C) (h4 : ∀ n ∈ Z, (Lit.int .u8 n).wf = true) (h5 : A = none → C = 0)
    (h6 : ∀ a', A = some a' → ∀ c, c < C → w.cell? (a'.add c) = some (.int .u8 (Z.getD c 0))) : RwOk w ⟨A, L, C, Z.take L⟩ := by
  have hl := maxl
  refine ⟨?_, fun z hz => ?_, by show L ≤ _; omega, h1, by show C ≤ _; omega⟩
  · have hlen : (Z.take L).length = L := by rw [List.length_take]; omega
    cases A with
    | none =>
      have := h5 rfl
      exact .inl ⟨hlen.symm, .inl ⟨rfl, by show L = 0; omega, this⟩⟩
    | some a =>
      by_cases h0 : C = 0
      · exact .inr ⟨List.eq_nil_of_length_eq_zero (by show (Z.take L).length = 0; omega), by show L = 0; omega, h0, a, rfl⟩
      · obtain ⟨b, off, spot⟩ := a
        have hs : spot = none := by
          have := World.cell?_spot (h6 _ rfl 0 (by omega))
          simpa [Addr.add] using this
        subst hs
        have hc := h6 _ rfl
        simp only [add_noneD] at hc
        refine .inl ⟨hlen.symm, .inr ⟨b, off, rfl, lt_of_cell (a := ⟨b, off + 0, none⟩) (hc 0 (by omega)), fun j hj => ?_⟩⟩
        have hj' : j < L := by have : j < (Z.take L).length := hj; omega
        rw [hc j (by omega)]
        simp only [List.getD_eq_getElem?_getD, List.getElem?_take, hj', if_true]
  · exact bounds_u8 (h4 z (List.mem_of_mem_take hz))

instance : Inhabited Wt := ⟨wt0⟩
section
variable {H : Type} {enc : TypeId × Value → H} {P : Program} {w : World} {base : Nat} {held : Bool}
theorem secs_of_trod {t e q : TypeId} {fuel : Nat} {v : Value} {x : DataW H × List MemPlace} (ht : P.underlying t = some (.slice e)) (he : P.underlying e = some (.slice q)) (hq : P.underlying q = some (.int .u8)) (ce : P.cellsOf e = 1) (cq : P.cellsOf q = 1)
    (hf : DataW.trod enc P w base (fun _ => true) held fuel t [v] = some x) : ∃ p n cap rs, v = .slice p n cap ∧ SecsV w p n rs ∧ n ≤ cap ∧ cap ≤ 9223372036854775807 ∧ (p = none → n = 0 ∧ cap = 0) := by
  have hl := maxl
  rcases open_int_rows ht he hq ce cq hf with ⟨hcs, _⟩ | ⟨a, l, c, A, L, C, Z, hcs, _, h1, h2, _, hi⟩
  · simp at hcs
    exact ⟨none, 0, 0, [], hcs, ⟨rfl, by omega, by simp, .inl rfl⟩, by omega, by omega, fun _ => ⟨rfl, rfl⟩⟩
  · simp at hcs
    refine ⟨some a, l, c, (List.range l).map fun r => ⟨A r, L r, C r, (Z r).take (L r)⟩, hcs, ⟨by simp, by omega, ?_, ?_⟩, h1, by omega, fun h => by cases h⟩
    · intro r hr
      obtain ⟨i, hi', rfl⟩ := List.mem_map.1 hr
      obtain ⟨k0, k1, k2, k3, k4, k5, k6⟩ := hi i (by have := List.mem_range.1 hi'; omega)
      exact row_ok k1 k2 k3 k4 k5 (fun a' ha => (k6 a' ha).2)
    · by_cases h0 : l = 0
      · exact .inl h0
      · right
        obtain ⟨b, off, spot⟩ := a
        have hs : spot = none := by
          have := World.cell?_spot (hi 0 (by omega)).1
          simpa [Addr.add] using this
        subst hs
        refine ⟨b, off, rfl, lt_of_cell (a := ⟨b, off + 0, none⟩) (by rw [← add_noneD]; exact (hi 0 (by omega)).1), ?_⟩
        intro j hj
        simp only [List.length_map, List.length_range] at hj
        have k0 := (hi j (by omega)).1
        rw [add_noneD] at k0
        rw [k0]
        simp [Rw.v, hj]
theorem row_of_trod {t q : TypeId} {fuel : Nat} {v : Value} {x : DataW H × List MemPlace} (ht : P.underlying t = some (.slice q)) (hq : P.underlying q = some (.int .u8)) (cq : P.cellsOf q = 1)
    (hf : DataW.trod enc P w base (fun _ => true) held fuel t [v] = some x) : ∃ r : Rw, v = r.v ∧ RwOk w r := by
  rcases open_ints ht hq cq hf with ⟨hcs, _⟩ | ⟨a, l, c, zs, hcs, _, h1, h2, hz, _, hcell, hwz⟩
  · simp at hcs
    exact ⟨⟨none, 0, 0, [].take 0⟩, hcs, row_ok (Nat.le_refl 0) (Nat.zero_le _) rfl (by simp) (fun _ => rfl) (fun _ h => by cases h)⟩
  · simp at hcs
    simp only [if_true] at hz
    exact ⟨⟨some a, l, c, zs.take l⟩, hcs, row_ok h1 h2 hz hwz (fun h => by cases h) (fun a' ha => by cases ha; exact fun i hi => hcell i (by omega))⟩
theorem wts_of_trod {t e : TypeId} {f0 f1 : Field} {q : TypeId} {fuel : Nat} {v : Value} {x : DataW H × List MemPlace} (ht : P.underlying t = some (.slice e)) (he : P.underlying e = some (.struct #[f0, f1])) (ce : P.cellsOf e = 2) (o0 : f0.offset = 0) (o1 : f1.offset = 1) (c0 : P.cellsOf f0.type = 1) (c1 : P.cellsOf f1.type = 1)
    (u0 : P.underlying f0.type = some (.int .i64)) (u1 : P.underlying f1.type = some (.slice q)) (hq : P.underlying q = some (.int .u8)) (cq : P.cellsOf q = 1)
    (hf : DataW.trod enc P w base (fun _ => true) held fuel t [v] = some x) : ∃ p n cap ws, v = .slice p n cap ∧ WtsV w p n ws ∧ n ≤ cap ∧ cap ≤ 9223372036854775807 ∧ (p = none → n = 0 ∧ cap = 0) := by
  have hl := maxl
  rcases open_slice_pairs ht he ce o0 o1 c0 c1 hf with ⟨hcs, _⟩ | ⟨a, l, c, m, k, V0, V1, D0, D1, P0, P1, hcs, _, h1, h2, hmm, _, hi⟩
  · simp at hcs
    exact ⟨none, 0, 0, [], hcs, ⟨rfl, by omega, by simp, .inl rfl⟩, by omega, by omega, fun _ => ⟨rfl, rfl⟩⟩
  · simp at hcs
    simp only [if_true] at hmm
    have each : ∀ i, i < l → ∃ y : Wt, w.cell? (a.add (i * 2)) = some (.int .i64 y.pos) ∧ w.cell? (a.add (i * 2 + 1)) = some y.row.v ∧ WtOk w y := by
      intro i hil
      obtain ⟨e0, e1, g0, g1⟩ := hi i (by omega)
      obtain ⟨n0, q0, _, z0⟩ := DataW.trod_int u0 g0
      obtain ⟨r, hr, hro⟩ := row_of_trod u1 hq cq g1
      simp at q0
      exact ⟨⟨n0, r⟩, by rw [e0, q0], by rw [e1, hr], bounds_i64 z0, hro⟩
    obtain ⟨y, hy⟩ := choose_lt each
    refine ⟨some a, l, c, (List.range l).map y, hcs, ⟨by simp, by omega, ?_, ?_⟩, h1, by omega, fun h => by cases h⟩
    · intro r hr
      obtain ⟨i, hi', rfl⟩ := List.mem_map.1 hr
      exact (hy i (List.mem_range.1 hi')).2.2
    · by_cases h0 : l = 0
      · exact .inl h0
      · right
        obtain ⟨b, off, spot⟩ := a
        have hs : spot = none := by
          have := World.cell?_spot (hy 0 (by omega)).1
          simpa [Addr.add] using this
        subst hs
        refine ⟨b, off, rfl, lt_of_cell (a := ⟨b, off + 0 * 2, none⟩) (by rw [← add_noneD]; exact (hy 0 (by omega)).1), ?_⟩
        intro j hj
        simp only [List.length_map, List.length_range] at hj
        obtain ⟨k0, k1, _⟩ := hy j hj
        rw [add_noneD] at k0 k1
        rw [show ((List.range l).map y).getD j wt0 = y j by simp [hj]]
        exact ⟨k0, by rw [Nat.add_assoc]; exact k1⟩
theorem open_dsk {r : Reach} {b0 : Nat} {v : Value} {d : DataW H} {ps : List MemPlace}
    (hv : Value.okWide Try.prog w r b0 25 v) (hd : DataW.Trod enc Try.prog w base (fun _ => true) held 25 v d ps) :
    ∃ p ns cs pp np cp left st rs ws, v = .agg (dskC p ns cs pp np cp left st) ∧ DskV w p ns pp np left rs ws ∧ (ns ≤ cs ∧ cs ≤ 9223372036854775807 ∧ (p = none → ns = 0 ∧ cs = 0)) ∧ np ≤ cp ∧ cp ≤ 9223372036854775807 ∧ (pp = none → np = 0 ∧ cp = 0) := by
  obtain ⟨f0, f1, f2, f3, hF, t0, t1, t2, t3, hone⟩ : ∃ f0 f1 f2 f3 : Field, Try.prog.underlying 25 = some (.struct #[f0, f1, f2, f3]) ∧ f0.type = 22 ∧ f1.type = 23 ∧ f2.type = 3 ∧ f3.type = 4 ∧ oneCellFields Try.prog #[f0, f1, f2, f3] = true := ⟨_, _, _, _, Try.underlying25, rfl, rfl, rfl, rfl, by kernel_rfl⟩
  obtain ⟨g0, g1, hG, s0, s1, o0, o1⟩ : ∃ g0 g1 : Field, Try.prog.underlying 54 = some (.struct #[g0, g1]) ∧ g0.type = 3 ∧ g1.type = 35 ∧ g0.offset = 0 ∧ g1.offset = 1 := ⟨_, _, Try.underlying54, rfl, rfl, rfl, rfl⟩
  obtain ⟨v0, v1, v2, v3, y0, y1, y2, y3, n, rfl, _, _, a0, a1, a2, a3⟩ := open_agg4 hF hone (by kernel_rfl) hv hd
  rw [t0] at a0; rw [t1] at a1; rw [t2] at a2; rw [t3] at a3
  obtain ⟨p, ns, cs, rs, rfl, h0, b0, b1, b2⟩ := secs_of_trod Try.underlying22 Try.underlying35 Try.underlying5 (by kernel_rfl) (by kernel_rfl) a0
  obtain ⟨pp, np, cp, ws, rfl, h1, e0, e1, e2⟩ := wts_of_trod Try.underlying23 hG (by kernel_rfl) o0 o1 (by rw [s0]; kernel_rfl) (by rw [s1]; kernel_rfl) (by rw [s0]; exact Try.underlying3) (by rw [s1]; exact Try.underlying35) Try.underlying5 (by kernel_rfl) a1
  obtain ⟨left, q0, _, z0⟩ := DataW.trod_int Try.underlying3 a2
  obtain ⟨st, q1, _⟩ := DataW.trod_bool Try.underlying4 a3
  simp at q0 q1
  subst q0 q1
  exact ⟨p, ns, cs, pp, np, cp, left, st, rs, ws, rfl, ⟨h0, h1, bounds_i64 z0⟩, ⟨b0, b1, b2⟩, e0, e1, e2⟩
end
end Go.Proofs.Ytackklbifppfeaa
