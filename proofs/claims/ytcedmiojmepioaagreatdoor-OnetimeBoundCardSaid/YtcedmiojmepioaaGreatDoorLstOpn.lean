/- How a list of digests opens. -/
import Derived.Test.YtcedmiojmepioaaGreatDoorDigCard
import Derived.Test.YtcedmiojmepioaaGreatDoorDigCard2
import Derived.Test.YtcedmiojmepioaaGreatDoorLstZ
import Derived.Lib.SmallJoins
import Derived.Deep.Fields
import Derived.Deep.SlicePairs
namespace Go.Proofs.YtcedmiojmepioaaGreatDoor
open Go.ChangeShapes Go.WideShapes Go.ChangeAt Go.RowKit Go.WideElems Go.Deep Go.Joins
set_option linter.unusedVariables false
set_option linter.unusedSimpArgs false

theorem add_addS (a : Addr) (i j : Nat) : (a.add i).add j = a.add (i + j) := by
  unfold Addr.add
  by_cases hi : i = 0 <;> by_cases hj : j = 0 <;> simp_all <;> omega
theorem add_noneS (b off n : Nat) : (⟨b, off, none⟩ : Addr).add n = ⟨b, off + n, none⟩ := by
  unfold Addr.add
  by_cases h : n = 0 <;> simp_all
theorem choose_ltS {α : Type} [Inhabited α] {n : Nat} {p : Nat → α → Prop} (h : ∀ i, i < n → ∃ y, p i y) : ∃ f : Nat → α, ∀ i, i < n → p i (f i) :=
  ⟨fun i => if hi : i < n then (h i hi).choose else default, fun i hi => by show p i (if hi : i < n then (h i hi).choose else default); rw [dif_pos hi]; exact (h i hi).choose_spec⟩
section
variable {H : Type} {enc : TypeId × Value → H} {w : World} {base : Nat} {spare : Nat → Bool} {held : Bool}
theorem dig_cells {fuel : Nat} {cs : List Value} {x : DataW H × List MemPlace} (h : DataW.trod enc Tryz.prog w base spare held fuel 25 cs = some x) (hl : cs.length = 32) : ∃ zs : List Int, cs = bv zs ∧ zs.length = 32 ∧ ∀ z ∈ zs, 0 ≤ z ∧ z ≤ 255 := by
  have hc : Tryz.prog.cellsOf 5 = 1 := by kernel_rfl
  obtain ⟨xs, m, _, _, _, hxl, hi⟩ := DataW.trod_array Tryz.underlying25 h
  rw [hc] at hi
  have each : ∀ c ∈ cs, ∃ n, c = .int .u8 n ∧ (Lit.int .u8 n).wf = true := by
    intro c hcm
    obtain ⟨i, hil, rfl⟩ := List.getElem_of_mem hcm
    have h1 := hi i (by omega)
    have e1 : (cs.drop (i * 1)).take 1 = [cs[i]] := by
      rw [Nat.mul_one, List.drop_eq_getElem_cons hil]; rfl
    rw [List.getElem?_eq_getElem (by omega : i < xs.length)] at h1
    rw [e1] at h1
    exact int_of_trod8 Tryz.underlying5 h1
  refine ⟨cs.map intOf, ?_, by simp [hl], ?_⟩
  · have : bv (cs.map intOf) = cs := by
      unfold bv
      rw [List.map_map]
      conv => rhs; rw [← List.map_id cs]
      apply List.map_congr_left
      intro c hcm
      obtain ⟨n, rfl, _⟩ := each c hcm
      rfl
    rw [this]
  · intro z hz
    obtain ⟨c, hcm, rfl⟩ := List.mem_map.1 hz
    obtain ⟨n, rfl, hw⟩ := each c hcm
    exact bounds_u8 hw
end
section
variable {H : Type} {enc : TypeId × Value → H} {w : World} {base : Nat} {held : Bool}
set_option maxRecDepth 100000 in
theorem open_digs {r : Reach} {b0 : Nat} {v : Value} {d : DataW H} {ps : List MemPlace}
    (hv : Value.okWide Tryz.prog w r b0 36 v) (hd : DataW.Trod enc Tryz.prog w base (fun _ => true) held 36 v d ps) : ∃ p n cap l, v = .slice p n cap ∧ SrcL w p n cap l ∧ Dgs l := by
  have ce : Tryz.prog.cellsOf 25 = 32 := by kernel_rfl
  obtain ⟨a0, n, cap, rfl⟩ := okWide_slice Tryz.underlying36 hv
  obtain ⟨fuel, hf⟩ := hd
  rcases open_slice Tryz.underlying36 hf with ⟨hcs, _⟩ | ⟨a, len, cap', m, q, D, Pl, hcs, hb, h1, h2, hmm, _, hx⟩
  · simp [Value.cells] at hcs
    obtain ⟨rfl, rfl, rfl⟩ := hcs
    exact ⟨none, 0, 0, [], rfl, ⟨rfl, Nat.le_refl _, by decide, .inl ⟨rfl, fun _ => rfl⟩⟩, Dgs.nil⟩
  · simp [Value.cells] at hcs
    obtain ⟨rfl, rfl, rfl⟩ := hcs
    simp only [if_true] at hmm
    have each : ∀ i, i < n → ∃ zs : List Int, (∀ j, j < 32 → w.cell? (a.add (i * 32 + j)) = some (.int .u8 (zs.getD j 0))) ∧ zs.length = 32 ∧ ∀ z ∈ zs, 0 ≤ z ∧ z ≤ 255 := by
      intro i hil
      obtain ⟨cs', e1, e2⟩ := hx i (by omega)
      rw [ce] at e1
      obtain ⟨_, hlen, hcell⟩ := World.cells?_some e1
      obtain ⟨zs, rfl, hzl, hzr⟩ := dig_cells e2 hlen
      refine ⟨zs, fun j hj => ?_, hzl, hzr⟩
      have e0 := hcell j (by omega)
      rw [add_addS] at e0
      rw [e0]
      simp [bv, hzl, hj]
    obtain ⟨y, hy⟩ := choose_ltS each
    have hlen : ((List.range n).map y).length = n := by simp
    have hD : Dgs ((List.range n).map y) := by
      intro r hr
      obtain ⟨i, hi', rfl⟩ := List.mem_map.1 hr
      exact (hy i (List.mem_range.1 hi')).2
    refine ⟨some a, n, cap, (List.range n).map y, rfl, ⟨hlen.symm, by first | omega | (simp only [maxLen] at *; omega), by first | omega | (simp only [maxLen] at *; omega), ?_⟩, hD⟩
    by_cases h0 : n = 0
    · exact .inl ⟨h0, fun h => by cases h⟩
    · right
      obtain ⟨b, off, spot⟩ := a
      have hs : spot = none := by
        have := World.cell?_spot ((hy 0 (by omega)).1 0 (by omega))
        simpa [Addr.add] using this
      subst hs
      have hc0 := (hy 0 (by omega)).1 0 (by omega)
      rw [add_noneS] at hc0
      refine ⟨b, off, rfl, lt_of_cell hc0, ?_⟩
      intro j hj
      rw [flat_len hD, hlen] at hj
      have hk : j / 32 < n := by omega
      have := (hy (j / 32) hk).1 (j % 32) (Nat.mod_lt _ (by decide))
      rw [add_noneS, show j / 32 * 32 + j % 32 = j by omega] at this
      rw [this]
      have hg := flat_get hD (j / 32) (by rw [hlen]; exact hk) (j % 32) (Nat.mod_lt _ (by decide))
      rw [show j / 32 * 32 + j % 32 = j by omega] at hg
      rw [hg]
      simp [List.getD, hk]
end
end Go.Proofs.YtcedmiojmepioaaGreatDoor
