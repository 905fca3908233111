/- How a list of links opens. -/
import Derived.Test.YtllcgehfmkmcdaaDoorLkArg0
import Derived.Test.YtllcgehfmkmcdaaDoorChnMem
import Derived.Deep.Matrix
namespace Go.Proofs.YtllcgehfmkmcdaaDoor
open Go.ChangeShapes Go.WideShapes Go.ChangeAt Go.RowKit Go.WideElems Go.Deep Go.Joins
set_option linter.unusedVariables false
set_option linter.unusedSimpArgs false

section
variable {H : Type} {enc : TypeId × Value → H} {P : Program} {w : World} {base : Nat} {held : Bool}
theorem row_of_trod {t q : TypeId} {fuel : Nat} {v : Value} {x : DataW H × List MemPlace} (ht : P.underlying t = some (.slice q)) (hq : P.underlying q = some (.int .u8)) (cq : P.cellsOf q = 1)
    (hf : DataW.trod enc P w base (fun _ => true) held fuel t [v] = some x) : ∃ r : Rw, v = r.v ∧ RwOk w r := by
  rcases open_ints ht hq cq hf with ⟨hcs, _⟩ | ⟨a, l, c, zs, hcs, _, h1, h2, hz, _, hcell, hwz⟩
  · simp at hcs
    exact ⟨⟨none, 0, 0, [].take 0⟩, hcs, row_ok (Nat.le_refl 0) (Nat.zero_le _) rfl (by simp) (fun _ => rfl) (fun _ h => by cases h)⟩
  · simp at hcs
    simp only [if_true] at hz
    exact ⟨⟨some a, l, c, zs.take l⟩, hcs, row_ok h1 h2 hz hwz (fun h => by cases h) (fun a' ha => by cases ha; exact fun i hi => hcell i (by omega))⟩
end
section
variable {H : Type} {enc : TypeId × Value → H} {w : World} {base : Nat} {held : Bool}
set_option maxRecDepth 100000 in
theorem link_cells {fuel : Nat} {cs : List Value} {x : DataW H × List MemPlace} (h : DataW.trod enc Tryd.prog w base (fun _ => true) held fuel 37 cs = some x) (hl : cs.length = 35) : ∃ y : Lk, cs = lkv y ∧ LkOk w y := by
  obtain ⟨g0, g1, g2, g3, hG, s0, s1, s2, s3, o0, o1, o2, o3⟩ : ∃ g0 g1 g2 g3 : Field, Tryd.prog.underlying 37 = some (.struct #[g0, g1, g2, g3]) ∧ g0.type = 3 ∧ g1.type = 3 ∧ g2.type = 35 ∧ g3.type = 23 ∧ g0.offset = 0 ∧ g1.offset = 1 ∧ g2.offset = 2 ∧ g3.offset = 34 := ⟨_, _, _, _, Tryd.underlying37, rfl, rfl, rfl, rfl, rfl, rfl, rfl, rfl⟩
  have cI : Tryd.prog.cellsOf 3 = 1 := by kernel_rfl
  have cD : Tryd.prog.cellsOf 35 = 32 := by kernel_rfl
  have cS : Tryd.prog.cellsOf 23 = 1 := by kernel_rfl
  obtain ⟨xs, k, hk, hxy, _, hxl, hff⟩ := DataW.trod_struct hG h
  match xs, hxl with
  | [y0, y1, y2, y3], _ =>
    have u0 := hff 0 g0 rfl
    have u1 := hff 1 g1 rfl
    have u2 := hff 2 g2 rfl
    have u3 := hff 3 g3 rfl
    rw [o0, s0, cI, List.drop_zero] at u0
    rw [o1, s1, cI] at u1
    rw [o2, s2, cD] at u2
    rw [o3, s3, cS] at u3
    match cs, hl with
    | c0 :: c1 :: tl, hl =>
      have htl : tl.length = 33 := by simpa using hl
      rw [show (c0 :: c1 :: tl).take 1 = [c0] from rfl] at u0
      rw [show ((c0 :: c1 :: tl).drop 1).take 1 = [c1] from rfl] at u1
      rw [show (c0 :: c1 :: tl).drop 2 = tl from rfl] at u2
      rw [show (c0 :: c1 :: tl).drop 34 = tl.drop 32 from rfl] at u3
      obtain ⟨zs, hz, hzl, hzr⟩ := dig_cells u2 (by rw [List.length_take]; omega)
      match hd1 : tl.drop 32, (by rw [List.length_drop]; omega : (tl.drop 32).length = 1) with
      | [c34], _ =>
        rw [hd1] at u3
        obtain ⟨n0, q0, _, z0⟩ := DataW.trod_int Tryd.underlying3 u0
        obtain ⟨n1, q1, _, z1⟩ := DataW.trod_int Tryd.underlying3 u1
        obtain ⟨r, hr, hro⟩ := row_of_trod Tryd.underlying23 Tryd.underlying5 (by kernel_rfl) u3
        simp at q0 q1
        subst q0 q1 hr
        refine ⟨⟨n0, n1, zs, r.p, r.m, r.c, r.bs⟩, ?_, ⟨hzl, hzr, hro.1, hro.2.1, hro.2.2.2.1, hro.2.2.2.2, bounds_i64 z0, bounds_i64 z1⟩⟩
        have e : tl = bv zs ++ [r.v] := by
          rw [← List.take_append_drop 32 tl, hz, hd1]
        rw [e]
        rfl
theorem open_links {r : Reach} {b0 : Nat} {v : Value} {d : DataW H} {ps : List MemPlace}
    (hv : Value.okWide Tryd.prog w r b0 22 v) (hd : DataW.Trod enc Tryd.prog w base (fun _ => true) held 22 v d ps) : ∃ p n cap ls, v = .slice p n cap ∧ LksV w p n cap ls := by
  have ce : Tryd.prog.cellsOf 37 = 35 := by kernel_rfl
  obtain ⟨a0, n, cap, rfl⟩ := okWide_slice Tryd.underlying22 hv
  obtain ⟨fuel, hf⟩ := hd
  have hl := maxl
  rcases open_slice Tryd.underlying22 hf with ⟨hcs, _⟩ | ⟨a, len, cap', m, q, D, Pl, hcs, hb, h1, h2, hmm, _, hx⟩
  · simp [Value.cells] at hcs
    obtain ⟨rfl, rfl, rfl⟩ := hcs
    exact ⟨none, 0, 0, [], rfl, ⟨rfl, by omega, by omega, fun _ => ⟨rfl, rfl⟩, by simp, .inl rfl⟩⟩
  · simp [Value.cells] at hcs
    obtain ⟨rfl, rfl, rfl⟩ := hcs
    simp only [if_true] at hmm
    have each : ∀ i, i < n → ∃ y : Lk, (∀ j u, (lkv y)[j]? = some u → w.cell? (a.add (i * 35 + j)) = some u) ∧ LkOk w y := by
      intro i hil
      obtain ⟨cs', e1, e2⟩ := hx i (by omega)
      rw [ce] at e1
      obtain ⟨_, hlen, hcell⟩ := World.cells?_some e1
      obtain ⟨y, rfl, hok⟩ := link_cells e2 hlen
      refine ⟨y, fun j u hj => ?_, hok⟩
      have hj35 : j < 35 := by
        have h3 := (List.getElem?_eq_some_iff.1 hj).1
        omega
      have e0 := hcell j hj35
      rw [add_addS] at e0
      rw [e0]
      exact hj
    obtain ⟨y, hy⟩ := choose_ltS each
    refine ⟨some a, n, cap, (List.range n).map y, rfl, ⟨by simp, by omega, by omega, (fun e => by cases e), ?_, ?_⟩⟩
    · intro r hr
      obtain ⟨i, hi', rfl⟩ := List.mem_map.1 hr
      exact (hy i (List.mem_range.1 hi')).2
    · by_cases h0 : n = 0
      · exact .inl h0
      · right
        obtain ⟨b, off, spot⟩ := a
        have hc0 := (hy 0 (by omega)).1 0 _ rfl
        have hs : spot = none := by
          have := World.cell?_spot hc0
          simpa [Addr.add] using this
        subst hs
        rw [add_noneS] at hc0
        refine ⟨b, off, rfl, lt_of_cell hc0, fun j hj k u hu => ?_⟩
        simp only [List.length_map, List.length_range] at hj
        rw [show ((List.range n).map y).getD j lk0 = y j by simp [hj]] at hu
        have := (hy j hj).1 k u hu
        rw [add_noneS, ← Nat.add_assoc] at this
        exact this
end
end Go.Proofs.YtllcgehfmkmcdaaDoor
