/- How a stamp opens, and a list of digests. -/
import Derived.Test.YtjdkdhpippapmaaGreatDoorStpZD
import Derived.Test.YtjdkdhpippapmaaGreatDoorStpZA
import Derived.Test.YtjdkdhpippapmaaGreatDoorStpZB
namespace Go.Proofs.YtjdkdhpippapmaaGreatDoor
open Go.ChangeShapes Go.WideShapes Go.ChangeAt Go.RowKit Go.WideElems Go.Deep Go.Joins
set_option linter.unusedVariables false
set_option linter.unusedSimpArgs false

theorem add_addS (a : Addr) (i j : Nat) : (a.add i).add j = a.add (i + j) := by
  unfold Addr.add
  by_cases hi : i = 0 <;> by_cases hj : j = 0 <;> simp_all <;> omega
theorem add_noneS (b off n : Nat) : (⟨b, off, none⟩ : Addr).add n = ⟨b, off + n, none⟩ := by
  unfold Addr.add
  by_cases h : n = 0 <;> simp_all
theorem choose_ltS {α : Type} [Inhabited α] {n : Nat} {p : Nat → α → Prop} (h : ∀ i, i < n → ∃ y, p i y) : ∃ f : Nat → α, ∀ i, i < n → p i (f i) :=
  ⟨fun i => if hi : i < n then (h i hi).choose else default, fun i hi => by show p i (if hi : i < n then (h i hi).choose else default); rw [dif_pos hi]; exact (h i hi).choose_spec⟩
section
variable {H : Type} {enc : TypeId × Value → H} {w : World} {base : Nat} {spare : Nat → Bool} {held : Bool}
theorem dig_cells {fuel : Nat} {cs : List Value} {x : DataW H × List MemPlace} (h : DataW.trod enc Tryz.prog w base spare held fuel 23 cs = some x) (hl : cs.length = 32) : ∃ zs : List Int, cs = bv zs ∧ zs.length = 32 ∧ ∀ z ∈ zs, 0 ≤ z ∧ z ≤ 255 := by
  have hc : Tryz.prog.cellsOf 5 = 1 := by kernel_rfl
  obtain ⟨xs, m, _, _, _, hxl, hi⟩ := DataW.trod_array Tryz.underlying23 h
  rw [hc] at hi
  have each : ∀ c ∈ cs, ∃ n, c = .int .u8 n ∧ (Lit.int .u8 n).wf = true := by
    intro c hcm
    obtain ⟨i, hil, rfl⟩ := List.getElem_of_mem hcm
    have h1 := hi i (by omega)
    have e1 : (cs.drop (i * 1)).take 1 = [cs[i]] := by
      rw [Nat.mul_one, List.drop_eq_getElem_cons hil]; rfl
    rw [List.getElem?_eq_getElem (by omega : i < xs.length)] at h1
    rw [e1] at h1
    exact int_of_trod8 Tryz.underlying5 h1
  refine ⟨cs.map intOf, ?_, by simp [hl], ?_⟩
  · have : bv (cs.map intOf) = cs := by
      unfold bv
      rw [List.map_map]
      conv => rhs; rw [← List.map_id cs]
      apply List.map_congr_left
      intro c hcm
      obtain ⟨n, rfl, _⟩ := each c hcm
      rfl
    rw [this]
  · intro z hz
    obtain ⟨c, hcm, rfl⟩ := List.mem_map.1 hz
    obtain ⟨n, rfl, hw⟩ := each c hcm
    exact bounds_u8 hw
theorem sig_cells {fuel : Nat} {v0 v1 : Value} {x : DataW H × List MemPlace} (h : DataW.trod enc Tryz.prog w base spare held fuel 25 [v0, v1] = some x) : ∃ e s : Int, v0 = .int .i64 e ∧ v1 = .int .i64 s := by
  obtain ⟨g0, g1, hG, s0, s1, o0, o1⟩ : ∃ g0 g1 : Field, Tryz.prog.underlying 25 = some (.struct #[g0, g1]) ∧ g0.type = 3 ∧ g1.type = 3 ∧ g0.offset = 0 ∧ g1.offset = 1 := ⟨_, _, Tryz.underlying25, rfl, rfl, rfl, rfl⟩
  have ci : Tryz.prog.cellsOf 3 = 1 := by kernel_rfl
  obtain ⟨xs, k, hk, hxy, _, hxl, hff⟩ := DataW.trod_struct hG h
  match xs, hxl with
  | [y0, y1], _ =>
    have t0 := hff 0 g0 rfl
    have t1 := hff 1 g1 rfl
    simp [o0, o1, s0, s1, ci] at t0 t1
    obtain ⟨n0, q0, _, _⟩ := DataW.trod_int Tryz.underlying3 t0
    obtain ⟨n1, q1, _, _⟩ := DataW.trod_int Tryz.underlying3 t1
    simp at q0 q1
    exact ⟨n0, n1, q0, q1⟩
set_option maxRecDepth 100000 in
theorem open_stamp {r : Reach} {b0 : Nat} {v : Value} {d : DataW H} {ps : List MemPlace}
    (hval : Value.okWide Tryz.prog w r b0 27 v) (hd : DataW.Trod enc Tryz.prog w base spare held 27 v d ps) : ∃ (zs : List Int) (n c s : Int), v = .agg (stv zs n c s).toArray ∧ zs.length = 32 ∧ ∀ z ∈ zs, 0 ≤ z ∧ z ≤ 255 := by
  obtain ⟨f0, f1, f2, hU, o0, o1, o2, t0, t1, t2⟩ : ∃ f0 f1 f2 : Field, Tryz.prog.underlying 27 = some (.struct #[f0, f1, f2]) ∧ f0.offset = 0 ∧ f1.offset = 32 ∧ f2.offset = 33 ∧ f0.type = 23 ∧ f1.type = 3 ∧ f2.type = 25 := ⟨_, _, _, Tryz.underlying27, rfl, rfl, rfl, rfl, rfl, rfl⟩
  have cD : Tryz.prog.cellsOf 23 = 32 := by kernel_rfl
  have cI : Tryz.prog.cellsOf 3 = 1 := by kernel_rfl
  have cS : Tryz.prog.cellsOf 25 = 2 := by kernel_rfl
  have cT : Tryz.prog.cellsOf 27 = 35 := by kernel_rfl
  simp only [Value.okWide, hU] at hval
  obtain ⟨cs, rfl, hsz, _⟩ := hval
  obtain ⟨fuel, hf⟩ := hd
  obtain ⟨l⟩ := cs
  have hl : l.length = 35 := hsz.trans cT
  obtain ⟨xs, k, hk, hxy, _, hxl, hff⟩ := DataW.trod_struct hU hf
  match xs, hxl with
  | [y0, y1, y2], _ =>
    have u0 := hff 0 f0 rfl
    have u1 := hff 1 f1 rfl
    have u2 := hff 2 f2 rfl
    have hcl : (Value.agg ⟨l⟩).cells.toList = l := by simp [Value.cells]
    rw [hcl, o0, t0, cD, List.drop_zero] at u0
    rw [hcl, o1, t1, cI] at u1
    rw [hcl, o2, t2, cS] at u2
    obtain ⟨zs, hz, hzl, hzr⟩ := dig_cells u0 (by rw [List.length_take]; omega)
    match hd1 : l.drop 32, (by rw [List.length_drop]; omega : (l.drop 32).length = 3) with
    | [a, b, c], _ =>
      have hd2 : l.drop 33 = [b, c] := by rw [show 33 = 32 + 1 from rfl, ← List.drop_drop, hd1]; rfl
      rw [hd1] at u1
      rw [hd2] at u2
      obtain ⟨n, q1, _, _⟩ := DataW.trod_int Tryz.underlying3 u1
      obtain ⟨e, s, rfl, rfl⟩ := sig_cells u2
      simp at q1
      subst q1
      refine ⟨zs, n, e, s, ?_, hzl, hzr⟩
      have : l = stv zs n e s := by
        rw [← List.take_append_drop 32 l, hz, hd1]; rfl
      rw [this]
end
section
variable {H : Type} {enc : TypeId × Value → H} {w : World} {base : Nat} {held : Bool}
set_option maxRecDepth 100000 in
theorem open_digs {r : Reach} {b0 : Nat} {v : Value} {d : DataW H} {ps : List MemPlace}
    (hv : Value.okWide Tryz.prog w r b0 36 v) (hd : DataW.Trod enc Tryz.prog w base (fun _ => true) held 36 v d ps) : ∃ p n cap l, v = .slice p n cap ∧ SrcL w p n cap l ∧ Dgs l := by
  have ce : Tryz.prog.cellsOf 23 = 32 := by kernel_rfl
  obtain ⟨a0, n, cap, rfl⟩ := okWide_slice Tryz.underlying36 hv
  obtain ⟨fuel, hf⟩ := hd
  rcases open_slice Tryz.underlying36 hf with ⟨hcs, _⟩ | ⟨a, len, cap', m, q, D, Pl, hcs, hb, h1, h2, hmm, _, hx⟩
  · simp [Value.cells] at hcs
    obtain ⟨rfl, rfl, rfl⟩ := hcs
    exact ⟨none, 0, 0, [], rfl, ⟨rfl, Nat.le_refl _, by decide, .inl ⟨rfl, fun _ => rfl⟩⟩, Dgs.nil⟩
  · simp [Value.cells] at hcs
    obtain ⟨rfl, rfl, rfl⟩ := hcs
    simp only [if_true] at hmm
    have each : ∀ i, i < n → ∃ zs : List Int, (∀ j, j < 32 → w.cell? (a.add (i * 32 + j)) = some (.int .u8 (zs.getD j 0))) ∧ zs.length = 32 ∧ ∀ z ∈ zs, 0 ≤ z ∧ z ≤ 255 := by
      intro i hil
      obtain ⟨cs', e1, e2⟩ := hx i (by omega)
      rw [ce] at e1
      obtain ⟨_, hlen, hcell⟩ := World.cells?_some e1
      obtain ⟨zs, rfl, hzl, hzr⟩ := dig_cells e2 hlen
      refine ⟨zs, fun j hj => ?_, hzl, hzr⟩
      have e0 := hcell j (by omega)
      rw [add_addS] at e0
      rw [e0]
      simp [bv, hzl, hj]
    obtain ⟨y, hy⟩ := choose_ltS each
    have hlen : ((List.range n).map y).length = n := by simp
    have hD : Dgs ((List.range n).map y) := by
      intro r hr
      obtain ⟨i, hi', rfl⟩ := List.mem_map.1 hr
      exact (hy i (List.mem_range.1 hi')).2
    refine ⟨some a, n, cap, (List.range n).map y, rfl, ⟨hlen.symm, by first | omega | (simp only [maxLen] at *; omega), by first | omega | (simp only [maxLen] at *; omega), ?_⟩, hD⟩
    by_cases h0 : n = 0
    · exact .inl ⟨h0, fun h => by cases h⟩
    · right
      obtain ⟨b, off, spot⟩ := a
      have hs : spot = none := by
        have := World.cell?_spot ((hy 0 (by omega)).1 0 (by omega))
        simpa [Addr.add] using this
      subst hs
      have hc0 := (hy 0 (by omega)).1 0 (by omega)
      rw [add_noneS] at hc0
      refine ⟨b, off, rfl, lt_of_cell hc0, ?_⟩
      intro j hj
      rw [flat_len hD, hlen] at hj
      have hk : j / 32 < n := by omega
      have := (hy (j / 32) hk).1 (j % 32) (Nat.mod_lt _ (by decide))
      rw [add_noneS, show j / 32 * 32 + j % 32 = j by omega] at this
      rw [this]
      have hg := flat_get hD (j / 32) (by rw [hlen]; exact hk) (j % 32) (Nat.mod_lt _ (by decide))
      rw [show j / 32 * 32 + j % 32 = j by omega] at hg
      rw [hg]
      simp [List.getD, hk]
end
end Go.Proofs.YtjdkdhpippapmaaGreatDoor
