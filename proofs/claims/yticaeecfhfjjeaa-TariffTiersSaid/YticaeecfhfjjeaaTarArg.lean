/- An argument that is a tariff; the frame of the laws' proofs. -/
import Derived.Test.YticaeecfhfjjeaaTarCheck
import Derived.Deep.SlicePairs
import Derived.Deep.Fields
import Derived.Lib.SmallJoins
namespace Go.Proofs.Yticaeecfhfjjeaa
open Go.ChangeShapes Go.WideShapes Go.ChangeAt Go.RowKit Go.Deep Go.Joins
set_option linter.unusedVariables false

theorem add_none (b off k : Nat) : (⟨b, off, none⟩ : Addr).add k = ⟨b, off + k, none⟩ := by
  unfold Addr.add; split
  · rename_i h; subst h; rfl
  · rfl
theorem lt_of_cell {w : World} {a : Addr} {v : Value} (h : w.cell? a = some v) : a.block < w.heap.size := by
  rcases Nat.lt_or_ge a.block w.heap.size with h1 | h1
  · exact h1
  · simp [World.cell?, Array.getElem?_eq_none h1] at h
def asI : Value → Int
  | .int _ n => n
  | _ => 0

section
variable {H : Type} {enc : TypeId × Value → H} {P : Program} {w : World} {base : Nat} {spare : Nat → Bool} {held : Bool}
theorem ints_of_trod {t e : TypeId} {fuel : Nat} {v : Value} {x : DataW H × List MemPlace} (ht : P.underlying t = some (.slice e)) (he : P.underlying e = some (.int .i64)) (hc : P.cellsOf e = 1)
    (hf : DataW.trod enc P w base spare held fuel t [v] = some x) : ∃ p n cap zs, v = .slice p n cap ∧ IntsV w p n zs := by
  rcases open_ints ht he hc hf with ⟨hcs, _⟩ | ⟨a, l, c, zs, hcs, _, hl, hm, hz, _, hcell, hwz⟩
  · simp at hcs
    exact ⟨none, 0, 0, [], hcs, rfl, by omega, by simp, .inl rfl⟩
  · simp at hcs
    have hlz : l ≤ zs.length := by rw [hz]; split <;> omega
    have hml : maxLen ≤ 9223372036854775807 := by decide
    refine ⟨some a, l, c, zs.take l, hcs, by rw [List.length_take]; omega, by omega, fun z h => bounds_i64 (hwz z (List.mem_of_mem_take h)), ?_⟩
    by_cases h0 : l = 0
    · exact .inl h0
    · right
      obtain ⟨b, off, rfl, hj⟩ := Go.ints_at hcell (by omega)
      refine ⟨b, off, rfl, lt_of_cell (hj 0 (by omega)), ?_⟩
      intro j hj'
      rw [List.length_take] at hj'
      rw [hj j (by omega)]
      simp only [List.getD_eq_getElem?_getD, List.getElem?_take, show j < l by omega, if_true]

theorem tiers_of_trod {t e : TypeId} {f0 f1 : Field} {fuel : Nat} {v : Value} {x : DataW H × List MemPlace} (ht : P.underlying t = some (.slice e)) (he : P.underlying e = some (.struct #[f0, f1])) (ce : P.cellsOf e = 2) (o0 : f0.offset = 0) (o1 : f1.offset = 1) (c0 : P.cellsOf f0.type = 1) (c1 : P.cellsOf f1.type = 1)
    (u0 : P.underlying f0.type = some (.int .i64)) (u1 : P.underlying f1.type = some (.int .i64))
    (hf : DataW.trod enc P w base spare held fuel t [v] = some x) : ∃ p n cap ts, v = .slice p n cap ∧ TiersV w p n ts := by
  rcases open_slice_pairs ht he ce o0 o1 c0 c1 hf with ⟨hcs, _⟩ | ⟨a, l, c, m, k, V0, V1, D0, D1, P0, P1, hcs, _, hl, hm, hmm, _, hi⟩
  · simp at hcs
    exact ⟨none, 0, 0, [], hcs, rfl, by omega, by simp, .inl rfl⟩
  · simp at hcs
    have hml : maxLen ≤ 9223372036854775807 := by decide
    have hlm : l ≤ m := by rw [hmm]; split <;> omega
    have key : ∀ i, i < l → w.cell? (a.add (i * 2)) = some (.int .i64 (asI (V0 i))) ∧ w.cell? (a.add (i * 2 + 1)) = some (.int .i64 (asI (V1 i))) ∧ i64B (asI (V0 i)) ∧ i64B (asI (V1 i)) := by
      intro i hil
      obtain ⟨e0, e1, g0, g1⟩ := hi i (by omega)
      obtain ⟨n0, q0, _, z0⟩ := DataW.trod_int u0 g0
      obtain ⟨n1, q1, _, z1⟩ := DataW.trod_int u1 g1
      simp at q0 q1
      rw [e0, e1, q0, q1]
      exact ⟨rfl, rfl, bounds_i64 z0, bounds_i64 z1⟩
    refine ⟨some a, l, c, (List.range l).map fun i => (asI (V0 i), asI (V1 i)), hcs, by simp, by omega, ?_, ?_⟩
    · intro r hr
      obtain ⟨i, hi', rfl⟩ := List.mem_map.1 hr
      exact (key i (List.mem_range.1 hi')).2.2
    · by_cases h0 : l = 0
      · exact .inl h0
      · right
        obtain ⟨b, off, spot⟩ := a
        have hs : spot = none := by
          have := World.cell?_spot (key 0 (by omega)).1
          simpa [Addr.add] using this
        subst hs
        refine ⟨b, off, rfl, lt_of_cell (a := ⟨b, off + 0 * 2, none⟩) (by rw [← add_none]; exact (key 0 (by omega)).1), ?_⟩
        intro j hj
        simp only [List.length_map, List.length_range] at hj
        obtain ⟨k0, k1, _⟩ := key j hj
        rw [add_none] at k0 k1
        rw [show ((List.range l).map fun i => (asI (V0 i), asI (V1 i))).getD j (0, 0) = (asI (V0 j), asI (V1 j)) by simp [hj]]
        exact ⟨k0, by rw [Nat.add_assoc]; exact k1⟩

theorem open_tar {r : Reach} {b0 : Nat} {v : Value} {d : DataW H} {ps : List MemPlace} {w : World} {base : Nat} {spare : Nat → Bool} {held : Bool}
    (hv : Value.okWide Try.prog w r b0 25 v) (hd : DataW.Trod enc Try.prog w base spare held 25 v d ps) :
    ∃ pb nb cb pl nl cl pt nt ct bs lg ts, v = tarV pb nb cb pl nl cl pt nt ct ∧ TarV w pb nb pl nl pt nt bs lg ts := by
  obtain ⟨f0, f1, f2, hF, t0, t1, t2, hone⟩ : ∃ f0 f1 f2 : Field, Try.prog.underlying 25 = some (.struct #[f0, f1, f2]) ∧ f0.type = 22 ∧ f1.type = 22 ∧ f2.type = 23 ∧ oneCellFields Try.prog #[f0, f1, f2] = true := ⟨_, _, _, Try.underlying25, rfl, rfl, rfl, by kernel_rfl⟩
  obtain ⟨g0, g1, hG, s0, s1, o0, o1⟩ : ∃ g0 g1 : Field, Try.prog.underlying 38 = some (.struct #[g0, g1]) ∧ g0.type = 3 ∧ g1.type = 3 ∧ g0.offset = 0 ∧ g1.offset = 1 := ⟨_, _, Try.underlying38, rfl, rfl, rfl, rfl⟩
  obtain ⟨v0, v1, v2, y0, y1, y2, n, rfl, _, _, a0, a1, a2⟩ := open_agg3 hF hone (by kernel_rfl) hv hd
  rw [t0] at a0; rw [t1] at a1; rw [t2] at a2
  have hint : Try.prog.underlying 3 = some (.int .i64) := Try.underlying3
  obtain ⟨pb, nb, cb, bs, rfl, h0⟩ := ints_of_trod Try.underlying22 hint (by kernel_rfl) a0
  obtain ⟨pl, nl, cl, lg, rfl, h1⟩ := ints_of_trod Try.underlying22 hint (by kernel_rfl) a1
  obtain ⟨pt, nt, ct, ts, rfl, h2⟩ := tiers_of_trod Try.underlying23 hG (by kernel_rfl) o0 o1 (by rw [s0]; kernel_rfl) (by rw [s1]; kernel_rfl) (by rw [s0]; exact hint) (by rw [s1]; exact hint) a2
  exact ⟨pb, nb, cb, pl, nl, cl, pt, nt, ct, bs, lg, ts, rfl, h0, h1, h2⟩
end
end Go.Proofs.Yticaeecfhfjjeaa
