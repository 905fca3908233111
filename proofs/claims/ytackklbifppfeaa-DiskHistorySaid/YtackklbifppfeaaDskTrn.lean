/- disk.torn. -/
import Derived.Test.YtackklbifppfeaaDskCln
import Derived.Laws.CopyOwn
import Derived.Deep.RegionLaw
namespace Go.Proofs.Ytackklbifppfeaa
open Go.RowKit
set_option linter.unusedVariables false

set_option maxRecDepth 100000 in
theorem run_make128 (w : World) : (Instr.makeSlice 35 (.int .i64 128) (.int .i64 128)).run Try.prog w = .ok (.slice (some ⟨w.heap.size, 0, none⟩) 128 128) (w.alloc (.cells (bv (List.replicate 128 0)).toArray 5)) := by
  kernel_rfl
theorem splice_bv (a b c : List Int) (k : Nat) (h : a.length = k) (h2 : b.length = c.length) (r : List Int) : splice (bv (a ++ (b ++ r))) k (bv c) = bv (a ++ (c ++ r)) := by
  subst h
  simp only [splice, bv, List.map_append, List.length_map]
  rw [List.take_left' (by simp), List.drop_append, List.drop_of_length_le (by simp), List.nil_append, List.length_map, show a.length + c.length - a.length = c.length by omega, List.drop_left' (by simp [h2])]
theorem bytes_src {w : World} {b off : Nat} {zs : List Int} (h : BytesAt w b off zs) : ∀ j v, (bv zs)[j]? = some v → w.cell? ((⟨b, off, none⟩ : Addr).add j) = some v := fun j v hj => by
  have hj' : j < zs.length := by
    have := (List.getElem?_eq_some_iff.1 hj).1
    rwa [bv_len] at this
  rw [Addr.add_mid, h j hj']
  have h2 := bv_get zs j hj'
  rw [List.getElem?_toArray, hj] at h2
  exact h2.symm

set_option maxHeartbeats 1000000 in
theorem torn_any (bo oo co bd od cd : Nat) (old data : List Int) (w : World) (ho : Hid (BytesAt w bo oo old)) (hd : Hid (BytesAt w bd od data)) (lo : Hid (old.length = 128)) (ld : Hid (data.length = 128))
    (hco : 128 ≤ co) (hcd : 128 ≤ cd) (hco2 : co ≤ 9223372036854775807) (hcd2 : cd ≤ 9223372036854775807) (hbo : bo < w.heap.size) (hbd : bd < w.heap.size) :
    Calls Try.prog 34 #[.slice (some ⟨bo, oo, none⟩) 128 co, .slice (some ⟨bd, od, none⟩) 128 cd] w
      fun e w' => e = .returned (.slice (some ⟨w.heap.size, 0, none⟩) 128 128) ∧ Below w.heap.size w w' ∧ Blk w' w.heap.size (bv (data.take 64 ++ old.drop 64)).toArray 5 := by
  have MK := fun w => run_make128 w
  obtain ⟨Z, hZ⟩ : ∃ Z, bv (List.replicate 128 0) = Z := ⟨_, rfl⟩
  have lZ := Lib.hid (show Z.length = 128 by rw [← hZ, bv_len, List.length_replicate])
  have hsz : (Try.prog.info? 5).map (·.size) = some 1 := by kernel_rfl
  obtain ⟨D, hD⟩ : ∃ D, data.take 64 = D := ⟨_, rfl⟩
  obtain ⟨O, hO⟩ : ∃ O, old.drop 64 = O := ⟨_, rfl⟩
  have lD : Hid (D.length = 64) := Lib.hid (by rw [← hD, List.length_take, ld.out]; rfl)
  have lO : Hid (O.length = 64) := Lib.hid (by rw [← hO, List.length_drop, lo.out])
  have hDD := Lib.hid (show BytesAt w bd od D by rw [← hD]; exact hd.out.take 64)
  have hOO := Lib.hid (show BytesAt w bo (oo + 64) O by rw [← hO]; exact ho.out.drop 64)
  have S1 := Lib.hid (show splice (bv (List.replicate 128 0)) 0 (bv D) = bv (D ++ List.replicate 64 0) from splice_bv [] (List.replicate 64 0) D 0 rfl (by rw [lD.out, List.length_replicate]) (List.replicate 64 0))
  have S2 := Lib.hid (show splice (bv (D ++ List.replicate 64 0)) 64 (bv O) = bv (D ++ O) by
    have := splice_bv D (List.replicate 64 0) O 64 lD.out (by rw [lO.out, List.length_replicate]) []
    simpa using this)
  rw [hD, hO]
  clear hD hO ho hd lo ld
  obtain ⟨CD, hCD⟩ : ∃ C, bv D = C := ⟨_, rfl⟩
  obtain ⟨CO, hCO⟩ : ∃ C, bv O = C := ⟨_, rfl⟩
  have n1 := Lib.hid (show CD.length = 64 by rw [← hCD, bv_len]; exact lD.out)
  have n2 := Lib.hid (show CO.length = 64 by rw [← hCO, bv_len]; exact lO.out)
  have s1 := Lib.hid (show ∀ j v, CD[j]? = some v → w.cell? ((⟨bd, od, none⟩ : Addr).add j) = some v by rw [← hCD]; exact bytes_src hDD.out)
  have s2 := Lib.hid (show ∀ j v, CO[j]? = some v → w.cell? ((⟨bo, oo + 64, none⟩ : Addr).add j) = some v by rw [← hCO]; exact bytes_src hOO.out)
  have o1 := Lib.hid (show ∀ v ∈ CD, v.oneCell' = true by rw [← hCD]; exact bv_one D)
  have o2 := Lib.hid (show ∀ v ∈ CO, v.oneCell' = true by rw [← hCO]; exact bv_one O)
  rw [hCD, hZ] at S1
  rw [hZ] at MK
  rw [hCO] at S2
  have l2 : Hid ((bv (D ++ List.replicate 64 0)).length = 128) := Lib.hid (by rw [bv_len, List.length_append, lD.out, List.length_replicate])
  obtain ⟨Z2, hZ2⟩ : ∃ Z, bv (D ++ List.replicate 64 0) = Z := ⟨_, rfl⟩
  rw [hZ2] at S1 S2 l2
  clear hCD hCO hDD hOO lD lO hZ hZ2
  have hne : ¬ co = 64 := by omega
  go_enter Try.func34, Try.ntmps34
  go_wp2_with (refine wpList_copy_splice rfl (.tmp 7) (.tmp 9) 35 35 rfl 5 Try.underlying35 hsz (some ⟨w.heap.size, 0, none⟩) (some ⟨bd, od, none⟩) 128 128 64 cd rfl rfl w.heap.size 0 Z 5 ?c1 CD ?c2 ?c3 ?c4 ?c5 w.heap.size w ?c6 (Nat.le_refl _) ?_)
  case c1 => exact World.alloc_heap_new _ _
  case c2 => rw [n1.out]; rfl
  case c3 => exact fun _ j v hj => by have := s1.out j v hj; rwa [Addr.add_mid] at this
  case c4 => rw [n1.out, lZ.out]; omega
  case c5 => exact o1.out
  case c6 => exact bel_alloc1 _ _
  intro w1 H1 hb1
  rw [S1.out] at H1
  have B1 := Lib.hid hb1
  clear hb1 S1
  have g1 := Lib.hid (B1.out.drew)
  have P2 : Hid (0 < CO.length → (some (⟨w.heap.size, 64, none⟩ : Addr)) = some ⟨w.heap.size, 64, none⟩ ∧ ∃ ad, (some (⟨bo, oo + 64, none⟩ : Addr)) = some ad ∧ ∀ j v, CO[j]? = some v → w1.drew.cell? (ad.add j) = some v) :=
    Lib.hid fun _ => ⟨rfl, _, rfl, fun j v hj => (B1.out.cell (p := (⟨bo, oo + 64, none⟩ : Addr).add j) (by rw [Addr.add_mid]; exact hbo)).trans (s2.out j v hj)⟩
  have N2 : Hid (CO.length = Nat.min 64 64) := Lib.hid (by rw [n2.out]; rfl)
  have F2 : Hid (64 + CO.length ≤ Z2.length) := Lib.hid (by have := n2.out; have := l2.out; omega)
  have HG : Hid (w1.drew.heap[w.heap.size]? = some (.cells Z2.toArray 5 (0, 0))) := Lib.hid H1.out
  go_wp2_with fail
  go_region_law (refine step_copy_splice rfl (.tmp 12) (.tmp 14) 35 35 rfl 5 Try.underlying35 hsz (some ⟨w.heap.size, 64, none⟩) (some ⟨bo, oo + 64, none⟩) 64 64 64 (co - 64) (by simp [Act.eval, Act.put]) (by simp [Act.eval, Act.put]) w.heap.size 64 Z2 5 HG.out CO N2.out (fun hz => ⟨rfl, (P2.out hz).2⟩) F2.out o2.out w.heap.size w g1.out (Nat.le_refl _) ?_; intro w2 HF2 HB2; rw [S2.out] at HF2; have HB3 := Lib.hid HB2; clear HB2)
  all_goals
    try simp [Act.put]
    go_wp2_with fail
    go_ret
    exact ⟨rfl, HB3.out, HF2.out⟩
end Go.Proofs.Ytackklbifppfeaa
