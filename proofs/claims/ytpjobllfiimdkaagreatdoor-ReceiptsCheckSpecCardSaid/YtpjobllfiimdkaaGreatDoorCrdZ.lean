/- The table of keys, as the card lays it; how a string opens; how the card is closed. How a digest by value and a byte open. How a list of digests opens. How arguments that are arrays of three ints, and letters, read. How a return address opens, a cipher, two ints, three ints. -/
import Derived.Test.YtpjobllfiimdkaaGreatDoorRows
import Derived.Test.YtpjobllfiimdkaaGreatDoorTie
import Derived.Test.YtpjobllfiimdkaaGreatDoorCards
import Derived.Test.YtpjobllfiimdkaaGreatDoorLawKit
import Derived.Test.YtpjobllfiimdkaaGreatDoorDigTag
import Derived.ProofKit
import Derived.OpenShut
import Derived.Carry
import Derived.WalkKit
import Derived.SevenTiedAt
import Derived.LaidMore
import Derived.Stop.Joined
import Derived.ChangeMaps5
import Derived.Test.YtpjobllfiimdkaaGreatDoorLstZ
import Derived.Lib.SmallJoins
import Derived.Deep.Fields
import Derived.Deep.SlicePairs
import Derived.Test.YtpjobllfiimdkaaGreatDoorOntZB
namespace Go.Proofs.YtpjobllfiimdkaaGreatDoor
open Go.ChangeShapes Go.WideShapes Go.ChangeAt Go.RowKit Go.WideElems
set_option linter.unusedVariables false
set_option linter.unusedSimpArgs false

theorem lt_of_cell {w : World} {a : Addr} {v : Value} (h : w.cell? a = some v) : a.block < w.heap.size := by
  rcases Nat.lt_or_ge a.block w.heap.size with h1 | h1
  · exact h1
  · simp [World.cell?, Array.getElem?_eq_none h1] at h
theorem gKeys : Tryz.prog.globalNamed "franking/digest.keys" = some 0 := by kernel_rfl
theorem tKeys : (Tryz.prog.globals[0]?).map (·.type) = some 132 := by kernel_rfl
abbrev laidK : List (String × DataW Unit) := [("franking/digest.keys", Rows.laid_franking_digest_keys)]
set_option maxRecDepth 100000 in
theorem door_met (os : Os) (args : Array Value) : laidMetH Tryz.prog laidK ((World.doorLaid Tryz.prog 400 os).forCall (fun _ _ => 0) ⟨#[], args, []⟩).memory :=
  laidMetH_of_parts3 (fuel := 8) (laidMet_of_run' 8 (by kernel_rfl) (by kernel_rfl)) (by kernel_rfl) (by kernel_rfl)
theorem laid_eq : (Rows.laid_franking_digest_keys : DataW Unit) = .agg (kK.map fun z => .lit (.int .u32 z)) := rfl
theorem of_laid {W : World} (h : laidMetH Tryz.prog laidK W) : KeysAt W := by
  rw [MakeChecks.laidMetH_plain _ _ _ (by kernel_rfl)] at h
  obtain ⟨ps, ⟨g0, t0, cs0, f0, p0, q0, hg0, ht0, hv0, hd0, _, _⟩, _, _⟩ := h
  obtain rfl := Option.some.inj (gKeys.symm.trans hg0)
  obtain rfl := Option.some.inj (tKeys.symm.trans ht0)
  rw [laid_eq] at hd0
  obtain ⟨xs, m1, rfl, hx1, hlen, hn3, hel⟩ := DataW.trod_array Tryz.underlying132 hd0
  have c53 : Tryz.prog.cellsOf 117 = 1 := by kernel_rfl
  have hxs : xs.map (·.1) = kK.map fun z => .lit (.int .u32 z) := by
    have := congrArg Prod.fst hx1
    simp only [DataW.agg.injEq] at this
    exact this.symm
  have each : ∀ j, j < 64 → W.cell? ⟨0, j, none⟩ = some (.int .u32 (kK.getD j 0)) := by
    intro j hj
    have h1 := hel j hj
    rw [c53, Nat.mul_one] at h1
    have hj' : j < xs.length := by rw [hn3]; exact hj
    rw [List.getElem?_eq_getElem hj'] at h1
    obtain ⟨k, e1, e2, _⟩ := DataW.trod_int Tryz.underlying117 h1
    have h2 : (xs.map (·.1))[j]? = (kK.map fun z => (DataW.lit (.int .u32 z) : DataW Unit))[j]? := by rw [hxs]
    rw [List.getElem?_map, List.getElem?_eq_getElem hj', e2, List.getElem?_map] at h2
    have hkj : j < kK.length := hj
    rw [List.getElem?_eq_getElem hkj] at h2
    simp only [Option.map_some, Option.some.injEq, DataW.lit.injEq, Lit.int.injEq, true_and] at h2
    have h3 := World.var?_cell gKeys hv0 j
    rw [h3, List.getD_eq_getElem?_getD, List.getElem?_eq_getElem hkj, Option.getD_some, ← h2]
    have h4 : (List.drop j cs0.toList)[0]? = some (.int .u32 k) := by
      have : (List.take 1 (List.drop j cs0.toList))[0]? = some (.int .u32 k) := by rw [e1]; rfl
      rwa [List.getElem?_take, if_pos (by omega)] at this
    rw [List.getElem?_drop] at h4
    simpa using h4
  refine ⟨?_, each⟩
  exact lt_of_cell (a := ⟨0, 0, none⟩) (each 0 (by omega))
section
variable {H : Type} {enc : TypeId × Value → H} {P : Program} {w : World} {base : Nat} {held : Bool}
theorem open_src {r : Reach} {b0 : Nat} {t e : TypeId} {v : Value} {d : DataW H} {ps : List MemPlace} (ht : P.underlying t = some (.slice e)) (he : P.underlying e = some (.int .u8)) (hc : P.cellsOf e = 1)
    (hval : Value.okWide P w r b0 t v) (hd : DataW.Trod enc P w base (fun _ => true) held t v d ps) : ∃ p n cap zs, v = .slice p n cap ∧ SrcW w p n cap zs ∧ (∀ z ∈ zs, 0 ≤ z ∧ z ≤ 255) ∧ n ≤ cap ∧ cap ≤ maxLen := by
  obtain ⟨p, n, cap, rfl⟩ := okWide_slice ht hval
  obtain ⟨fuel, hf⟩ := hd
  rcases open_ints ht he hc hf with ⟨hcs, _⟩ | ⟨a, l, c, zs, hcs, _, hl, hm, hz, _, hcell, hwz⟩
  · simp [Value.cells] at hcs
    obtain ⟨rfl, rfl, rfl⟩ := hcs
    exact ⟨none, 0, 0, [], rfl, .inl ⟨rfl, .inl ⟨rfl, rfl, rfl⟩⟩, by simp, by omega, by unfold maxLen; omega⟩
  · simp [Value.cells] at hcs
    obtain ⟨rfl, rfl, rfl⟩ := hcs
    simp only [if_true] at hz
    refine ⟨some a, n, cap, zs.take n, rfl, ?_, fun z h => bounds_u8 (hwz z (List.mem_of_mem_take h)), hl, hm⟩
    by_cases h0 : cap = 0
    · subst h0
      obtain rfl : n = 0 := by omega
      exact .inr ⟨by simp, rfl, rfl, a, rfl⟩
    · obtain ⟨b, off, spot⟩ := a
      have hs : spot = none := by
        have := World.cell?_spot (hcell 0 (by omega))
        simpa [Addr.add] using this
      subst hs
      refine .inl ⟨by rw [List.length_take]; omega, .inr ⟨b, off, rfl, lt_of_cell (a := ⟨b, off + 0, none⟩) (by rw [← Addr.add_mid]; exact hcell 0 (by omega)), ?_⟩⟩
      intro j hj'
      rw [List.length_take] at hj'
      rw [← Addr.add_mid, hcell j (by omega)]
      simp only [List.getD_eq_getElem?_getD, List.getElem?_take, show j < n by omega, if_true]
end
end Go.Proofs.YtpjobllfiimdkaaGreatDoor
namespace Go.Proofs.YtpjobllfiimdkaaGreatDoor
open Go.ChangeShapes Go.WideShapes Go.ChangeAt Go.RowKit Go.WideElems
set_option linter.unusedVariables false
set_option linter.unusedSimpArgs false
section
variable {H : Type} {enc : TypeId × Value → H} {P : Program} {w : World} {base : Nat} {held : Bool} {spare : Nat → Bool}
theorem int_of_trod8 {e : TypeId} {k : IntKind} {fuel : Nat} {v : Value} {x : DataW H × List MemPlace} (he : P.underlying e = some (.int k)) (h : DataW.trod enc P w base spare held fuel e [v] = some x) : ∃ n, v = .int k n ∧ (Lit.int k n).wf = true := by
  obtain ⟨n, e1, e2, e3⟩ := DataW.trod_int he h
  simp at e1
  exact ⟨n, e1, e3⟩
theorem open_dig {r : Reach} {b0 : Nat} {t e : TypeId} {v : Value} {d : DataW H} {ps : List MemPlace} (ht : P.underlying t = some (.array 32 e)) (he : P.underlying e = some (.int .u8)) (hc : P.cellsOf e = 1) (hcT : P.cellsOf t = 32)
    (hval : Value.okWide P w r b0 t v) (hd : DataW.Trod enc P w base spare held t v d ps) : ∃ zs : List Int, v = .agg (bv zs).toArray ∧ zs.length = 32 ∧ ∀ z ∈ zs, 0 ≤ z ∧ z ≤ 255 := by
  simp only [Value.okWide, ht] at hval
  obtain ⟨cs, rfl, hsz, _⟩ := hval
  obtain ⟨fuel, hf⟩ := hd
  obtain ⟨l⟩ := cs
  have hl : l.length = 32 := hsz.trans hcT
  obtain ⟨xs, m, _, _, _, hxl, hi⟩ := DataW.trod_array ht hf
  rw [hc] at hi
  have each : ∀ c ∈ l, ∃ n, c = .int .u8 n ∧ (Lit.int .u8 n).wf = true := by
    intro c hcm
    obtain ⟨i, hil, rfl⟩ := List.getElem_of_mem hcm
    have h1 := hi i (by omega)
    have e1 : ((Value.agg ⟨l⟩).cells.toList.drop (i * 1)).take 1 = [l[i]] := by
      have : (Value.agg ⟨l⟩).cells.toList = l := by simp [Value.cells]
      rw [this, Nat.mul_one, List.drop_eq_getElem_cons hil]; rfl
    rw [List.getElem?_eq_getElem (by omega : i < xs.length)] at h1
    rw [e1] at h1
    exact int_of_trod8 he h1
  refine ⟨l.map intOf, ?_, by simp [hl], ?_⟩
  · have : bv (l.map intOf) = l := by
      unfold bv
      rw [List.map_map]
      conv => rhs; rw [← List.map_id l]
      apply List.map_congr_left
      intro c hcm
      obtain ⟨n, rfl, _⟩ := each c hcm
      rfl
    rw [this]
  · intro z hz
    obtain ⟨c, hcm, rfl⟩ := List.mem_map.1 hz
    obtain ⟨n, rfl, hw⟩ := each c hcm
    exact bounds_u8 hw
theorem open_u8 {r : Reach} {b0 : Nat} {t : TypeId} {v : Value} {d : DataW H} {ps : List MemPlace} (ht : P.underlying t = some (.int .u8))
    (hval : Value.okWide P w r b0 t v) (hd : DataW.Trod enc P w base spare held t v d ps) : ∃ z : Int, v = .int .u8 z ∧ 0 ≤ z ∧ z ≤ 255 := by
  obtain ⟨a, rfl, _, _, w0⟩ := open_int ht hval hd
  exact ⟨a, rfl, bounds_u8 w0⟩
end
end Go.Proofs.YtpjobllfiimdkaaGreatDoor
namespace Go.Proofs.YtpjobllfiimdkaaGreatDoor
open Go.ChangeShapes Go.WideShapes Go.ChangeAt Go.RowKit Go.WideElems Go.Deep Go.Joins
set_option linter.unusedVariables false
set_option linter.unusedSimpArgs false

theorem add_addS (a : Addr) (i j : Nat) : (a.add i).add j = a.add (i + j) := by
  unfold Addr.add
  by_cases hi : i = 0 <;> by_cases hj : j = 0 <;> simp_all <;> omega
theorem add_noneS (b off n : Nat) : (⟨b, off, none⟩ : Addr).add n = ⟨b, off + n, none⟩ := by
  unfold Addr.add
  by_cases h : n = 0 <;> simp_all
theorem choose_ltS {α : Type} [Inhabited α] {n : Nat} {p : Nat → α → Prop} (h : ∀ i, i < n → ∃ y, p i y) : ∃ f : Nat → α, ∀ i, i < n → p i (f i) :=
  ⟨fun i => if hi : i < n then (h i hi).choose else default, fun i hi => by show p i (if hi : i < n then (h i hi).choose else default); rw [dif_pos hi]; exact (h i hi).choose_spec⟩
section
variable {H : Type} {enc : TypeId × Value → H} {w : World} {base : Nat} {spare : Nat → Bool} {held : Bool}
theorem dig_cells {fuel : Nat} {cs : List Value} {x : DataW H × List MemPlace} (h : DataW.trod enc Tryz.prog w base spare held fuel 27 cs = some x) (hl : cs.length = 32) : ∃ zs : List Int, cs = bv zs ∧ zs.length = 32 ∧ ∀ z ∈ zs, 0 ≤ z ∧ z ≤ 255 := by
  have hc : Tryz.prog.cellsOf 5 = 1 := by kernel_rfl
  obtain ⟨xs, m, _, _, _, hxl, hi⟩ := DataW.trod_array Tryz.underlying27 h
  rw [hc] at hi
  have each : ∀ c ∈ cs, ∃ n, c = .int .u8 n ∧ (Lit.int .u8 n).wf = true := by
    intro c hcm
    obtain ⟨i, hil, rfl⟩ := List.getElem_of_mem hcm
    have h1 := hi i (by omega)
    have e1 : (cs.drop (i * 1)).take 1 = [cs[i]] := by
      rw [Nat.mul_one, List.drop_eq_getElem_cons hil]; rfl
    rw [List.getElem?_eq_getElem (by omega : i < xs.length)] at h1
    rw [e1] at h1
    exact int_of_trod8 Tryz.underlying5 h1
  refine ⟨cs.map intOf, ?_, by simp [hl], ?_⟩
  · have : bv (cs.map intOf) = cs := by
      unfold bv
      rw [List.map_map]
      conv => rhs; rw [← List.map_id cs]
      apply List.map_congr_left
      intro c hcm
      obtain ⟨n, rfl, _⟩ := each c hcm
      rfl
    rw [this]
  · intro z hz
    obtain ⟨c, hcm, rfl⟩ := List.mem_map.1 hz
    obtain ⟨n, rfl, hw⟩ := each c hcm
    exact bounds_u8 hw
end
section
variable {H : Type} {enc : TypeId × Value → H} {w : World} {base : Nat} {held : Bool}
end
end Go.Proofs.YtpjobllfiimdkaaGreatDoor
namespace Go.Proofs.YtpjobllfiimdkaaGreatDoor
open Go.ChangeShapes Go.WideShapes Go.ChangeAt Go.RowKit
set_option linter.unusedVariables false

section
variable {H : Type} {enc : TypeId × Value → H} {P : Program} {w : World} {base : Nat} {spare : Nat → Bool} {held : Bool}

theorem int_of_trod {e : TypeId} {k : IntKind} {fuel : Nat} {v : Value} {x : DataW H × List MemPlace} (he : P.underlying e = some (.int k)) (h : DataW.trod enc P w base spare held fuel e [v] = some x) : ∃ n, v = .int k n ∧ (Lit.int k n).wf = true := by
  obtain ⟨n, h1, h2, h3⟩ := DataW.trod_int he h
  exact ⟨n, by simpa using h1, h3⟩

theorem open_arr3 {r : Reach} {b0 : Nat} {t e : TypeId} {k : IntKind} {v : Value} {d : DataW H} {ps : List MemPlace} (ht : P.underlying t = some (.array 3 e)) (he : P.underlying e = some (.int k)) (hc : P.cellsOf e = 1) (hcT : P.cellsOf t = 3)
    (hval : Value.okWide P w r b0 t v) (hd : DataW.Trod enc P w base spare held t v d ps) :
    ∃ n0 n1 n2, v = .agg #[.int k n0, .int k n1, .int k n2] ∧ (Lit.int k n0).wf = true ∧ (Lit.int k n1).wf = true ∧ (Lit.int k n2).wf = true := by
  simp only [Value.okWide, ht] at hval
  obtain ⟨cs, rfl, hsz, _⟩ := hval
  obtain ⟨fuel, hf⟩ := hd
  obtain ⟨l⟩ := cs
  match l, hsz.trans hcT with
  | [c0, c1, c2], _ =>
    obtain ⟨xs, m, _, _, _, hxl, hi⟩ := DataW.trod_array ht hf
    rw [hc] at hi
    have h0 := hi 0 (by omega); have h1 := hi 1 (by omega); have h2 := hi 2 (by omega)
    match xs, hxl with
    | [x0, x1, x2], _ =>
      obtain ⟨n0, rfl, w0⟩ := int_of_trod he (by simpa [Value.cells] using h0)
      obtain ⟨n1, rfl, w1⟩ := int_of_trod he (by simpa [Value.cells] using h1)
      obtain ⟨n2, rfl, w2⟩ := int_of_trod he (by simpa [Value.cells] using h2)
      exact ⟨n0, n1, n2, rfl, w0, w1, w2⟩

theorem two_of_trod {e : TypeId} {f0 f1 : Field} {k : IntKind} {fuel : Nat} {u v : Value} {x : DataW H × List MemPlace} (he : P.underlying e = some (.struct #[f0, f1])) (hone : Go.Deep.oneCellFields P #[f0, f1] = true)
    (h0 : P.underlying f0.type = some (.int k)) (h1 : P.underlying f1.type = some (.int k)) (h : DataW.trod enc P w base spare held fuel e [u, v] = some x) :
    ∃ a b, u = .int k a ∧ v = .int k b ∧ (Lit.int k a).wf = true ∧ (Lit.int k b).wf = true := by
  obtain ⟨ys, n', _, _, _, hyl, hf⟩ := DataW.trod_struct he h
  obtain ⟨o0, k0⟩ := Go.Deep.hone_of hone 0 f0 rfl
  obtain ⟨o1, k1⟩ := Go.Deep.hone_of hone 1 f1 rfl
  match ys, hyl with
  | [y0, y1], _ =>
    obtain ⟨a, rfl, wa⟩ := int_of_trod h0 (by simpa [Value.cells, o0, k0] using hf 0 f0 rfl)
    obtain ⟨b, rfl, wb⟩ := int_of_trod h1 (by simpa [Value.cells, o1, k1] using hf 1 f1 rfl)
    exact ⟨a, b, rfl, rfl, wa, wb⟩

theorem open_arr32 {r : Reach} {b0 : Nat} {t e : TypeId} {f0 f1 : Field} {k : IntKind} {v : Value} {d : DataW H} {ps : List MemPlace} (ht : P.underlying t = some (.array 3 e)) (he : P.underlying e = some (.struct #[f0, f1])) (hone : Go.Deep.oneCellFields P #[f0, f1] = true)
    (h0 : P.underlying f0.type = some (.int k)) (h1 : P.underlying f1.type = some (.int k)) (hc : P.cellsOf e = 2) (hcT : P.cellsOf t = 6)
    (hval : Value.okWide P w r b0 t v) (hd : DataW.Trod enc P w base spare held t v d ps) :
    ∃ n0 n1 n2 n3 n4 n5, v = .agg #[.int k n0, .int k n1, .int k n2, .int k n3, .int k n4, .int k n5] := by
  simp only [Value.okWide, ht] at hval
  obtain ⟨cs, rfl, hsz, _⟩ := hval
  obtain ⟨fuel, hf⟩ := hd
  obtain ⟨l⟩ := cs
  match l, hsz.trans hcT with
  | [c0, c1, c2, c3, c4, c5], _ =>
    obtain ⟨xs, m, _, _, _, hxl, hi⟩ := DataW.trod_array ht hf
    rw [hc] at hi
    have i0 := hi 0 (by omega); have i1 := hi 1 (by omega); have i2 := hi 2 (by omega)
    match xs, hxl with
    | [x0, x1, x2], _ =>
      obtain ⟨n0, n1, rfl, rfl, _⟩ := two_of_trod he hone h0 h1 (by simpa [Value.cells] using i0)
      obtain ⟨n2, n3, rfl, rfl, _⟩ := two_of_trod he hone h0 h1 (by simpa [Value.cells] using i1)
      obtain ⟨n4, n5, rfl, rfl, _⟩ := two_of_trod he hone h0 h1 (by simpa [Value.cells] using i2)
      exact ⟨n0, n1, n2, n3, n4, n5, rfl⟩
end
end Go.Proofs.YtpjobllfiimdkaaGreatDoor
namespace Go.Proofs.YtpjobllfiimdkaaGreatDoor
open Go.ChangeShapes Go.WideShapes Go.ChangeAt Go.RowKit Go.WideElems Go.Deep Go.Joins
set_option linter.unusedVariables false
set_option linter.unusedSimpArgs false
section
variable {H : Type} {enc : TypeId × Value → H} {w : World} {base : Nat} {spare : Nat → Bool} {held : Bool}
set_option maxRecDepth 100000 in
theorem cip_cells {fuel : Nat} {v0 v1 : Value} {x : DataW H × List MemPlace} (h : DataW.trod enc Tryz.prog w base spare held fuel 25 [v0, v1] = some x) : ∃ e s : Int, v0 = .int .i64 e ∧ v1 = .int .i64 s := by
  obtain ⟨g0, g1, hG, s0, s1, o0, o1⟩ : ∃ g0 g1 : Field, Tryz.prog.underlying 25 = some (.struct #[g0, g1]) ∧ g0.type = 3 ∧ g1.type = 3 ∧ g0.offset = 0 ∧ g1.offset = 1 := ⟨_, _, Tryz.underlying25, rfl, rfl, rfl, rfl⟩
  have ci : Tryz.prog.cellsOf 3 = 1 := by kernel_rfl
  obtain ⟨xs, k, hk, hxy, _, hxl, hff⟩ := DataW.trod_struct hG h
  match xs, hxl with
  | [y0, y1], _ =>
    have t0 := hff 0 g0 rfl
    have t1 := hff 1 g1 rfl
    simp [o0, o1, s0, s1, ci] at t0 t1
    obtain ⟨n0, q0, _, _⟩ := DataW.trod_int Tryz.underlying3 t0
    obtain ⟨n1, q1, _, _⟩ := DataW.trod_int Tryz.underlying3 t1
    simp at q0 q1
    exact ⟨n0, n1, q0, q1⟩
set_option maxRecDepth 100000 in
theorem open_cip {r : Reach} {b0 : Nat} {v : Value} {d : DataW H} {ps : List MemPlace}
    (hval : Value.okWide Tryz.prog w r b0 25 v) (hd : DataW.Trod enc Tryz.prog w base spare held 25 v d ps) : ∃ a b : Int, v = .agg #[.int .i64 a, .int .i64 b] := by
  have hU : ∃ fs, Tryz.prog.underlying 25 = some (.struct fs) := ⟨_, Tryz.underlying25⟩
  obtain ⟨fs, hU⟩ := hU
  have cT : Tryz.prog.cellsOf 25 = 2 := by kernel_rfl
  simp only [Value.okWide, hU] at hval
  obtain ⟨cs, rfl, hsz, _⟩ := hval
  obtain ⟨fuel, hf⟩ := hd
  obtain ⟨l⟩ := cs
  match l, hsz.trans cT with
  | [x, y], _ =>
    obtain ⟨a, b, rfl, rfl⟩ := cip_cells (by simpa [Value.cells] using hf)
    exact ⟨a, b, rfl⟩
set_option maxRecDepth 100000 in
theorem open_ret {r : Reach} {b0 : Nat} {v : Value} {d : DataW H} {ps : List MemPlace}
    (hval : Value.okWide Tryz.prog w r b0 29 v) (hd : DataW.Trod enc Tryz.prog w base spare held 29 v d ps) : ∃ (l k a b : Int) (zs : List Int), v = .agg (rtv l k a b zs).toArray ∧ zs.length = 32 ∧ ∀ z ∈ zs, 0 ≤ z ∧ z ≤ 255 := by
  obtain ⟨f0, f1, f2, f3, hU, o0, o1, o2, o3, t0, t1, t2, t3⟩ : ∃ f0 f1 f2 f3 : Field, Tryz.prog.underlying 29 = some (.struct #[f0, f1, f2, f3]) ∧ f0.offset = 0 ∧ f1.offset = 1 ∧ f2.offset = 2 ∧ f3.offset = 4 ∧ f0.type = 3 ∧ f1.type = 3 ∧ f2.type = 25 ∧ f3.type = 27 := ⟨_, _, _, _, Tryz.underlying29, rfl, rfl, rfl, rfl, rfl, rfl, rfl, rfl⟩
  have cD : Tryz.prog.cellsOf 27 = 32 := by kernel_rfl
  have cI : Tryz.prog.cellsOf 3 = 1 := by kernel_rfl
  have cC : Tryz.prog.cellsOf 25 = 2 := by kernel_rfl
  have cT : Tryz.prog.cellsOf 29 = 36 := by kernel_rfl
  simp only [Value.okWide, hU] at hval
  obtain ⟨cs, rfl, hsz, _⟩ := hval
  obtain ⟨fuel, hf⟩ := hd
  obtain ⟨l⟩ := cs
  have hl : l.length = 36 := hsz.trans cT
  obtain ⟨xs, k, hk, hxy, _, hxl, hff⟩ := DataW.trod_struct hU hf
  match xs, hxl with
  | [y0, y1, y2, y3], _ =>
    have u0 := hff 0 f0 rfl
    have u1 := hff 1 f1 rfl
    have u2 := hff 2 f2 rfl
    have u3 := hff 3 f3 rfl
    have hcl : (Value.agg ⟨l⟩).cells.toList = l := by simp [Value.cells]
    rw [hcl, o0, t0, cI] at u0
    rw [hcl, o1, t1, cI] at u1
    rw [hcl, o2, t2, cC] at u2
    rw [hcl, o3, t3, cD] at u3
    match l, hl with
    | x0 :: x1 :: x2 :: x3 :: rs, hl =>
      have hr : rs.length = 32 := by simpa using hl
      have e2 : List.take 2 (List.drop 2 (x0 :: x1 :: x2 :: x3 :: rs)) = [x2, x3] := rfl
      have e3 : List.take 32 (List.drop 4 (x0 :: x1 :: x2 :: x3 :: rs)) = rs := by
        show List.take 32 rs = rs
        rw [List.take_of_length_le (by omega)]
      rw [e2] at u2
      rw [e3] at u3
      obtain ⟨n, q0, _, _⟩ := DataW.trod_int Tryz.underlying3 u0
      obtain ⟨m, q1, _, _⟩ := DataW.trod_int Tryz.underlying3 u1
      obtain ⟨a, b, rfl, rfl⟩ := cip_cells u2
      obtain ⟨zs, rfl, hzl, hzr⟩ := dig_cells u3 hr
      simp at q0 q1
      subst q0 q1
      exact ⟨n, m, a, b, zs, rfl, hzl, hzr⟩
set_option maxRecDepth 100000 in
theorem open_arr2 {P : Program} {r : Reach} {b0 : Nat} {t e : TypeId} {k : IntKind} {v : Value} {d : DataW H} {ps : List MemPlace} (ht : P.underlying t = some (.array 2 e)) (he : P.underlying e = some (.int k)) (hc : P.cellsOf e = 1) (hcT : P.cellsOf t = 2)
    (hval : Value.okWide P w r b0 t v) (hd : DataW.Trod enc P w base spare held t v d ps) :
    ∃ n0 n1, v = .agg #[.int k n0, .int k n1] ∧ (Lit.int k n0).wf = true ∧ (Lit.int k n1).wf = true := by
  simp only [Value.okWide, ht] at hval
  obtain ⟨cs, rfl, hsz, _⟩ := hval
  obtain ⟨fuel, hf⟩ := hd
  obtain ⟨l⟩ := cs
  match l, hsz.trans hcT with
  | [c0, c1], _ =>
    obtain ⟨xs, m, _, _, _, hxl, hi⟩ := DataW.trod_array ht hf
    rw [hc] at hi
    have h0 := hi 0 (by omega); have h1 := hi 1 (by omega)
    match xs, hxl with
    | [x0, x1], _ =>
      obtain ⟨n0, rfl, w0⟩ := int_of_trod he (by simpa [Value.cells] using h0)
      obtain ⟨n1, rfl, w1⟩ := int_of_trod he (by simpa [Value.cells] using h1)
      exact ⟨n0, n1, rfl, w0, w1⟩
end
end Go.Proofs.YtpjobllfiimdkaaGreatDoor
