/- The table of keys, as the card lays it; how a string opens; how the card is closed. How a digest by value and a byte open. How a signature opens; the card's base. How a uint32 opens; the numbers that the laws make of their arguments. -/
import Derived.Test.YtjdkdhpippapmaaGreatDoorRows
import Derived.Test.YtjdkdhpippapmaaGreatDoorTie
import Derived.Test.YtjdkdhpippapmaaGreatDoorCards
import Derived.Test.YtjdkdhpippapmaaGreatDoorLawKit
import Derived.Test.YtjdkdhpippapmaaGreatDoorDigTag
import Derived.ProofKit
import Derived.OpenShut
import Derived.Carry
import Derived.WalkKit
import Derived.SevenTiedAt
import Derived.LaidMore
import Derived.Stop.Joined
import Derived.ChangeMaps5
import Derived.Test.YtjdkdhpippapmaaGreatDoorSigVer
import Derived.Lib.SmallJoins
import Derived.Deep.Fields
import Derived.Deep.SlicePairs
import Derived.Test.YtjdkdhpippapmaaGreatDoorStpZE
namespace Go.Proofs.YtjdkdhpippapmaaGreatDoor
open Go.ChangeShapes Go.WideShapes Go.ChangeAt Go.RowKit Go.WideElems
set_option linter.unusedVariables false
set_option linter.unusedSimpArgs false

theorem lt_of_cell {w : World} {a : Addr} {v : Value} (h : w.cell? a = some v) : a.block < w.heap.size := by
  rcases Nat.lt_or_ge a.block w.heap.size with h1 | h1
  · exact h1
  · simp [World.cell?, Array.getElem?_eq_none h1] at h
theorem gKeys : Tryz.prog.globalNamed "franking/digest.keys" = some 1 := by kernel_rfl
theorem tKeys : (Tryz.prog.globals[1]?).map (·.type) = some 145 := by kernel_rfl
abbrev laidK : List (String × DataW Unit) := [("franking/digest.keys", Rows.laid_franking_digest_keys)]
set_option maxRecDepth 100000 in
theorem door_met (os : Os) (args : Array Value) : laidMetH Tryz.prog laidK ((World.doorLaid Tryz.prog 400 os).forCall (fun _ _ => 0) ⟨#[], args, []⟩).memory :=
  laidMetH_of_parts3 (fuel := 8) (laidMet_of_run' 8 (by kernel_rfl) (by kernel_rfl)) (by kernel_rfl) (by kernel_rfl)
theorem laid_eq : (Rows.laid_franking_digest_keys : DataW Unit) = .agg (kK.map fun z => .lit (.int .u32 z)) := rfl
theorem of_laid {W : World} (h : laidMetH Tryz.prog laidK W) : KeysAt W := by
  rw [MakeChecks.laidMetH_plain _ _ _ (by kernel_rfl)] at h
  obtain ⟨ps, ⟨g0, t0, cs0, f0, p0, q0, hg0, ht0, hv0, hd0, _, _⟩, _, _⟩ := h
  obtain rfl := Option.some.inj (gKeys.symm.trans hg0)
  obtain rfl := Option.some.inj (tKeys.symm.trans ht0)
  rw [laid_eq] at hd0
  obtain ⟨xs, m1, rfl, hx1, hlen, hn3, hel⟩ := DataW.trod_array Tryz.underlying145 hd0
  have c53 : Tryz.prog.cellsOf 42 = 1 := by kernel_rfl
  have hxs : xs.map (·.1) = kK.map fun z => .lit (.int .u32 z) := by
    have := congrArg Prod.fst hx1
    simp only [DataW.agg.injEq] at this
    exact this.symm
  have each : ∀ j, j < 64 → W.cell? ⟨1, j, none⟩ = some (.int .u32 (kK.getD j 0)) := by
    intro j hj
    have h1 := hel j hj
    rw [c53, Nat.mul_one] at h1
    have hj' : j < xs.length := by rw [hn3]; exact hj
    rw [List.getElem?_eq_getElem hj'] at h1
    obtain ⟨k, e1, e2, _⟩ := DataW.trod_int Tryz.underlying42 h1
    have h2 : (xs.map (·.1))[j]? = (kK.map fun z => (DataW.lit (.int .u32 z) : DataW Unit))[j]? := by rw [hxs]
    rw [List.getElem?_map, List.getElem?_eq_getElem hj', e2, List.getElem?_map] at h2
    have hkj : j < kK.length := hj
    rw [List.getElem?_eq_getElem hkj] at h2
    simp only [Option.map_some, Option.some.injEq, DataW.lit.injEq, Lit.int.injEq, true_and] at h2
    have h3 := World.var?_cell gKeys hv0 j
    rw [h3, List.getD_eq_getElem?_getD, List.getElem?_eq_getElem hkj, Option.getD_some, ← h2]
    have h4 : (List.drop j cs0.toList)[0]? = some (.int .u32 k) := by
      have : (List.take 1 (List.drop j cs0.toList))[0]? = some (.int .u32 k) := by rw [e1]; rfl
      rwa [List.getElem?_take, if_pos (by omega)] at this
    rw [List.getElem?_drop] at h4
    simpa using h4
  refine ⟨?_, each⟩
  exact lt_of_cell (a := ⟨1, 0, none⟩) (each 0 (by omega))
section
variable {H : Type} {enc : TypeId × Value → H} {P : Program} {w : World} {base : Nat} {held : Bool}
theorem open_src {r : Reach} {b0 : Nat} {t e : TypeId} {v : Value} {d : DataW H} {ps : List MemPlace} (ht : P.underlying t = some (.slice e)) (he : P.underlying e = some (.int .u8)) (hc : P.cellsOf e = 1)
    (hval : Value.okWide P w r b0 t v) (hd : DataW.Trod enc P w base (fun _ => true) held t v d ps) : ∃ p n cap zs, v = .slice p n cap ∧ SrcW w p n cap zs ∧ (∀ z ∈ zs, 0 ≤ z ∧ z ≤ 255) ∧ n ≤ cap ∧ cap ≤ maxLen := by
  obtain ⟨p, n, cap, rfl⟩ := okWide_slice ht hval
  obtain ⟨fuel, hf⟩ := hd
  rcases open_ints ht he hc hf with ⟨hcs, _⟩ | ⟨a, l, c, zs, hcs, _, hl, hm, hz, _, hcell, hwz⟩
  · simp [Value.cells] at hcs
    obtain ⟨rfl, rfl, rfl⟩ := hcs
    exact ⟨none, 0, 0, [], rfl, .inl ⟨rfl, .inl ⟨rfl, rfl, rfl⟩⟩, by simp, by omega, by unfold maxLen; omega⟩
  · simp [Value.cells] at hcs
    obtain ⟨rfl, rfl, rfl⟩ := hcs
    simp only [if_true] at hz
    refine ⟨some a, n, cap, zs.take n, rfl, ?_, fun z h => bounds_u8 (hwz z (List.mem_of_mem_take h)), hl, hm⟩
    by_cases h0 : cap = 0
    · subst h0
      obtain rfl : n = 0 := by omega
      exact .inr ⟨by simp, rfl, rfl, a, rfl⟩
    · obtain ⟨b, off, spot⟩ := a
      have hs : spot = none := by
        have := World.cell?_spot (hcell 0 (by omega))
        simpa [Addr.add] using this
      subst hs
      refine .inl ⟨by rw [List.length_take]; omega, .inr ⟨b, off, rfl, lt_of_cell (a := ⟨b, off + 0, none⟩) (by rw [← Addr.add_mid]; exact hcell 0 (by omega)), ?_⟩⟩
      intro j hj'
      rw [List.length_take] at hj'
      rw [← Addr.add_mid, hcell j (by omega)]
      simp only [List.getD_eq_getElem?_getD, List.getElem?_take, show j < n by omega, if_true]
end
end Go.Proofs.YtjdkdhpippapmaaGreatDoor
namespace Go.Proofs.YtjdkdhpippapmaaGreatDoor
open Go.ChangeShapes Go.WideShapes Go.ChangeAt Go.RowKit Go.WideElems
set_option linter.unusedVariables false
set_option linter.unusedSimpArgs false
section
variable {H : Type} {enc : TypeId × Value → H} {P : Program} {w : World} {base : Nat} {held : Bool} {spare : Nat → Bool}
theorem int_of_trod8 {e : TypeId} {k : IntKind} {fuel : Nat} {v : Value} {x : DataW H × List MemPlace} (he : P.underlying e = some (.int k)) (h : DataW.trod enc P w base spare held fuel e [v] = some x) : ∃ n, v = .int k n ∧ (Lit.int k n).wf = true := by
  obtain ⟨n, e1, e2, e3⟩ := DataW.trod_int he h
  simp at e1
  exact ⟨n, e1, e3⟩
theorem open_dig {r : Reach} {b0 : Nat} {t e : TypeId} {v : Value} {d : DataW H} {ps : List MemPlace} (ht : P.underlying t = some (.array 32 e)) (he : P.underlying e = some (.int .u8)) (hc : P.cellsOf e = 1) (hcT : P.cellsOf t = 32)
    (hval : Value.okWide P w r b0 t v) (hd : DataW.Trod enc P w base spare held t v d ps) : ∃ zs : List Int, v = .agg (bv zs).toArray ∧ zs.length = 32 ∧ ∀ z ∈ zs, 0 ≤ z ∧ z ≤ 255 := by
  simp only [Value.okWide, ht] at hval
  obtain ⟨cs, rfl, hsz, _⟩ := hval
  obtain ⟨fuel, hf⟩ := hd
  obtain ⟨l⟩ := cs
  have hl : l.length = 32 := hsz.trans hcT
  obtain ⟨xs, m, _, _, _, hxl, hi⟩ := DataW.trod_array ht hf
  rw [hc] at hi
  have each : ∀ c ∈ l, ∃ n, c = .int .u8 n ∧ (Lit.int .u8 n).wf = true := by
    intro c hcm
    obtain ⟨i, hil, rfl⟩ := List.getElem_of_mem hcm
    have h1 := hi i (by omega)
    have e1 : ((Value.agg ⟨l⟩).cells.toList.drop (i * 1)).take 1 = [l[i]] := by
      have : (Value.agg ⟨l⟩).cells.toList = l := by simp [Value.cells]
      rw [this, Nat.mul_one, List.drop_eq_getElem_cons hil]; rfl
    rw [List.getElem?_eq_getElem (by omega : i < xs.length)] at h1
    rw [e1] at h1
    exact int_of_trod8 he h1
  refine ⟨l.map intOf, ?_, by simp [hl], ?_⟩
  · have : bv (l.map intOf) = l := by
      unfold bv
      rw [List.map_map]
      conv => rhs; rw [← List.map_id l]
      apply List.map_congr_left
      intro c hcm
      obtain ⟨n, rfl, _⟩ := each c hcm
      rfl
    rw [this]
  · intro z hz
    obtain ⟨c, hcm, rfl⟩ := List.mem_map.1 hz
    obtain ⟨n, rfl, hw⟩ := each c hcm
    exact bounds_u8 hw
theorem open_u8 {r : Reach} {b0 : Nat} {t : TypeId} {v : Value} {d : DataW H} {ps : List MemPlace} (ht : P.underlying t = some (.int .u8))
    (hval : Value.okWide P w r b0 t v) (hd : DataW.Trod enc P w base spare held t v d ps) : ∃ z : Int, v = .int .u8 z ∧ 0 ≤ z ∧ z ≤ 255 := by
  obtain ⟨a, rfl, _, _, w0⟩ := open_int ht hval hd
  exact ⟨a, rfl, bounds_u8 w0⟩
end
end Go.Proofs.YtjdkdhpippapmaaGreatDoor
namespace Go.Proofs.YtjdkdhpippapmaaGreatDoor
open Go.ChangeShapes Go.WideShapes Go.ChangeAt Go.RowKit Go.WideElems Go.Deep Go.Joins
set_option linter.unusedVariables false
section
variable {H : Type} {enc : TypeId × Value → H} {w : World} {base : Nat} {spare : Nat → Bool} {held : Bool}
set_option maxRecDepth 100000 in
theorem open_sig {r : Reach} {b0 : Nat} {v : Value} {d : DataW H} {ps : List MemPlace}
    (hv : Value.okWide Tryz.prog w r b0 25 v) (hd : DataW.Trod enc Tryz.prog w base spare held 25 v d ps) :
    ∃ e s : Int, v = .agg #[.int .i64 e, .int .i64 s] ∧ (Lit.int .i64 e).wf = true ∧ (Lit.int .i64 s).wf = true := by
  obtain ⟨f0, f1, hF, t0, t1, hone⟩ : ∃ f0 f1 : Field, Tryz.prog.underlying 25 = some (.struct #[f0, f1]) ∧ f0.type = 3 ∧ f1.type = 3 ∧ oneCellFields Tryz.prog #[f0, f1] = true := ⟨_, _, Tryz.underlying25, rfl, rfl, by kernel_rfl⟩
  obtain ⟨v0, v1, y0, y1, n, rfl, _, _, a0, a1⟩ := open_agg2 hF hone (by kernel_rfl) hv hd
  rw [t0] at a0; rw [t1] at a1
  have hint : Tryz.prog.underlying 3 = some (.int .i64) := Tryz.underlying3
  obtain ⟨n0, q0, _, z0⟩ := DataW.trod_int hint a0
  obtain ⟨n1, q1, _, z1⟩ := DataW.trod_int hint a1
  simp at q0 q1
  subst q0 q1
  exact ⟨n0, n1, rfl, z0, z1⟩
end
end Go.Proofs.YtjdkdhpippapmaaGreatDoor
namespace Go.Proofs.YtjdkdhpippapmaaGreatDoor
open Go.ChangeShapes Go.WideShapes Go.ChangeAt Go.RowKit Go.WideElems Go.Deep Go.Joins
set_option linter.unusedVariables false
set_option linter.unusedSimpArgs false

/-- the value of a stamp, of any number -/
def valZ (n : Int) : Int := IntKind.u64.wrap n % 1099511627777
theorem val_wrap (n : Int) : wrap64 ((IntKind.u64.wrap n).tmod 1099511627777) = valZ n := by
  have h0 : 0 ≤ IntKind.u64.wrap n := by rw [IntKind.wrap_u64]; omega
  rw [Int.tmod_eq_emod_of_nonneg h0]
  unfold valZ
  generalize IntKind.u64.wrap n = k at h0 ⊢
  simp only [wrap64]
  omega
theorem valZ_ok (n : Int) : valB (valZ n) = true := by
  rw [valB_iff]; unfold valZ; omega
theorem sec_ok (a : Int) : secB (1 + a % 1073741788) = true := secB_iff.2 (by omega)
set_option maxHeartbeats 400000 in
theorem secret_is (a x : Int) (w : World) (ha : Hid (0 ≤ a ∧ a ≤ 4294967295)) (hx : Hid (1 + a % 1073741788 = x)) : Calls Tryz.prog 20 #[.int .u32 a] w fun e w' => e = .returned (.int .i64 x) ∧ w' = w := by
  obtain ⟨h0, h1⟩ := ha.out
  have h2 : 0 ≤ a % 1073741788 ∧ a % 1073741788 < 1073741788 := by omega
  go_enter Tryz.func20, Tryz.ntmps20
  go_wp2_with fail
  go_ret
  exact ⟨congrArg (fun z => Ending.returned (Value.int .i64 z)) hx.out, rfl⟩
set_option maxHeartbeats 400000 in
theorem value_is (n m : Int) (w : World) (hn : Hid ((Lit.int .i64 n).wf = true)) (hm : Hid (valZ n = m)) : Calls Tryz.prog 22 #[.int .i64 n] w fun e w' => e = .returned (.int .i64 m) ∧ w' = w := by
  go_enter Tryz.func22, Tryz.ntmps22
  go_wp2_with fail
  go_ret
  exact ⟨congrArg (fun z => Ending.returned (Value.int .i64 z)) ((val_wrap n).trans hm.out), rfl⟩
section
variable {H : Type} {enc : TypeId × Value → H} {P : Program} {w : World} {base : Nat} {spare : Nat → Bool} {held : Bool}
theorem bounds_u32 {a : Int} (h : (Lit.int .u32 a).wf = true) : 0 ≤ a ∧ a ≤ 4294967295 := by
  simp [Lit.wf, IntKind.min, IntKind.max, IntKind.signed, IntKind.bits] at h
  omega
theorem open_u32 {r : Reach} {b0 : Nat} {t : TypeId} {v : Value} {d : DataW H} {ps : List MemPlace} (ht : P.underlying t = some (.int .u32))
    (hval : Value.okWide P w r b0 t v) (hd : DataW.Trod enc P w base spare held t v d ps) : ∃ z : Int, v = .int .u32 z ∧ 0 ≤ z ∧ z ≤ 4294967295 := by
  obtain ⟨a, rfl, _, _, w0⟩ := open_int ht hval hd
  exact ⟨a, rfl, bounds_u32 w0⟩
end
end Go.Proofs.YtjdkdhpippapmaaGreatDoor
