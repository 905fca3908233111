/- The table of keys, as the card lays it; how a string opens; how the card is closed. -/
import Derived.Test.YtllcgehfmkmcdaaDoorRows
import Derived.Test.YtllcgehfmkmcdaaDoorTie
import Derived.Test.YtllcgehfmkmcdaaDoorCards
import Derived.Test.YtllcgehfmkmcdaaDoorLawKit
import Derived.Test.YtllcgehfmkmcdaaDoorDigTag
import Derived.ProofKit
import Derived.OpenShut
import Derived.Carry
import Derived.WalkKit
import Derived.SevenTiedAt
import Derived.LaidMore
import Derived.Stop.Joined
import Derived.ChangeMaps5
namespace Go.Proofs.YtllcgehfmkmcdaaDoor
open Go.ChangeShapes Go.WideShapes Go.ChangeAt Go.RowKit Go.WideElems
set_option linter.unusedVariables false
set_option linter.unusedSimpArgs false

theorem lt_of_cell {w : World} {a : Addr} {v : Value} (h : w.cell? a = some v) : a.block < w.heap.size := by
  rcases Nat.lt_or_ge a.block w.heap.size with h1 | h1
  · exact h1
  · simp [World.cell?, Array.getElem?_eq_none h1] at h
theorem gKeys : Tryd.prog.globalNamed "franking/digest.keys" = some 0 := by kernel_rfl
theorem tKeys : (Tryd.prog.globals[0]?).map (·.type) = some 78 := by kernel_rfl
abbrev laidK : List (String × DataW Unit) := [("franking/digest.keys", Rows.laid_franking_digest_keys)]
set_option maxRecDepth 100000 in
theorem door_met (os : Os) (args : Array Value) : laidMetH Tryd.prog laidK ((World.doorLaid Tryd.prog 400 os).forCall (fun _ _ => 0) ⟨#[], args, []⟩).memory :=
  laidMetH_of_parts3 (fuel := 8) (laidMet_of_run' 8 (by kernel_rfl) (by kernel_rfl)) (by kernel_rfl) (by kernel_rfl)
theorem laid_eq : (Rows.laid_franking_digest_keys : DataW Unit) = .agg (kK.map fun z => .lit (.int .u32 z)) := rfl
theorem of_laid {W : World} (h : laidMetH Tryd.prog laidK W) : KeysAt W := by
  rw [MakeChecks.laidMetH_plain _ _ _ (by kernel_rfl)] at h
  obtain ⟨ps, ⟨g0, t0, cs0, f0, p0, q0, hg0, ht0, hv0, hd0, _, _⟩, _, _⟩ := h
  obtain rfl := Option.some.inj (gKeys.symm.trans hg0)
  obtain rfl := Option.some.inj (tKeys.symm.trans ht0)
  rw [laid_eq] at hd0
  obtain ⟨xs, m1, rfl, hx1, hlen, hn3, hel⟩ := DataW.trod_array Tryd.underlying78 hd0
  have c53 : Tryd.prog.cellsOf 66 = 1 := by kernel_rfl
  have hxs : xs.map (·.1) = kK.map fun z => .lit (.int .u32 z) := by
    have := congrArg Prod.fst hx1
    simp only [DataW.agg.injEq] at this
    exact this.symm
  have each : ∀ j, j < 64 → W.cell? ⟨0, j, none⟩ = some (.int .u32 (kK.getD j 0)) := by
    intro j hj
    have h1 := hel j hj
    rw [c53, Nat.mul_one] at h1
    have hj' : j < xs.length := by rw [hn3]; exact hj
    rw [List.getElem?_eq_getElem hj'] at h1
    obtain ⟨k, e1, e2, _⟩ := DataW.trod_int Tryd.underlying66 h1
    have h2 : (xs.map (·.1))[j]? = (kK.map fun z => (DataW.lit (.int .u32 z) : DataW Unit))[j]? := by rw [hxs]
    rw [List.getElem?_map, List.getElem?_eq_getElem hj', e2, List.getElem?_map] at h2
    have hkj : j < kK.length := hj
    rw [List.getElem?_eq_getElem hkj] at h2
    simp only [Option.map_some, Option.some.injEq, DataW.lit.injEq, Lit.int.injEq, true_and] at h2
    have h3 := World.var?_cell gKeys hv0 j
    rw [h3, List.getD_eq_getElem?_getD, List.getElem?_eq_getElem hkj, Option.getD_some, ← h2]
    have h4 : (List.drop j cs0.toList)[0]? = some (.int .u32 k) := by
      have : (List.take 1 (List.drop j cs0.toList))[0]? = some (.int .u32 k) := by rw [e1]; rfl
      rwa [List.getElem?_take, if_pos (by omega)] at this
    rw [List.getElem?_drop] at h4
    simpa using h4
  refine ⟨?_, each⟩
  exact lt_of_cell (a := ⟨0, 0, none⟩) (each 0 (by omega))
section
variable {H : Type} {enc : TypeId × Value → H} {P : Program} {w : World} {base : Nat} {held : Bool}
theorem open_src {r : Reach} {b0 : Nat} {t e : TypeId} {v : Value} {d : DataW H} {ps : List MemPlace} (ht : P.underlying t = some (.slice e)) (he : P.underlying e = some (.int .u8)) (hc : P.cellsOf e = 1)
    (hval : Value.okWide P w r b0 t v) (hd : DataW.Trod enc P w base (fun _ => true) held t v d ps) : ∃ p n cap zs, v = .slice p n cap ∧ SrcW w p n cap zs ∧ (∀ z ∈ zs, 0 ≤ z ∧ z ≤ 255) ∧ n ≤ cap ∧ cap ≤ maxLen := by
  obtain ⟨p, n, cap, rfl⟩ := okWide_slice ht hval
  obtain ⟨fuel, hf⟩ := hd
  rcases open_ints ht he hc hf with ⟨hcs, _⟩ | ⟨a, l, c, zs, hcs, _, hl, hm, hz, _, hcell, hwz⟩
  · simp [Value.cells] at hcs
    obtain ⟨rfl, rfl, rfl⟩ := hcs
    exact ⟨none, 0, 0, [], rfl, .inl ⟨rfl, .inl ⟨rfl, rfl, rfl⟩⟩, by simp, by omega, by unfold maxLen; omega⟩
  · simp [Value.cells] at hcs
    obtain ⟨rfl, rfl, rfl⟩ := hcs
    simp only [if_true] at hz
    refine ⟨some a, n, cap, zs.take n, rfl, ?_, fun z h => bounds_u8 (hwz z (List.mem_of_mem_take h)), hl, hm⟩
    by_cases h0 : cap = 0
    · subst h0
      obtain rfl : n = 0 := by omega
      exact .inr ⟨by simp, rfl, rfl, a, rfl⟩
    · obtain ⟨b, off, spot⟩ := a
      have hs : spot = none := by
        have := World.cell?_spot (hcell 0 (by omega))
        simpa [Addr.add] using this
      subst hs
      refine .inl ⟨by rw [List.length_take]; omega, .inr ⟨b, off, rfl, lt_of_cell (a := ⟨b, off + 0, none⟩) (by rw [← Addr.add_mid]; exact hcell 0 (by omega)), ?_⟩⟩
      intro j hj'
      rw [List.length_take] at hj'
      rw [← Addr.add_mid, hcell j (by omega)]
      simp only [List.getD_eq_getElem?_getD, List.getElem?_take, show j < n by omega, if_true]
end
end Go.Proofs.YtllcgehfmkmcdaaDoor
