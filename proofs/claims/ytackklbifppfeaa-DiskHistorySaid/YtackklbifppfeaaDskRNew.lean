/- The reference's New; New at a wrong number. -/
import Derived.Test.YtackklbifppfeaaDskOwn
import Derived.Test.YtackklbifppfeaaDskTrn
import Derived.Test.YtackklbifppfeaaDskRun
import Derived.Test.YtackklbifppfeaaRegU
import Derived.Test.YtackklbifppfeaaDskNew
import Derived.Deep.Cut
namespace Go.Proofs.Ytackklbifppfeaa
open Go.RowKit
set_option linter.unusedVariables false
set_option linter.unusedSimpArgs false

theorem new_no (n : Int) (h : ¬ (1 ≤ n ∧ n ≤ 4096)) (w : World) :
    Calls Try.prog 12 #[.int .i64 n] w fun e w' => e = .returned (.tuple #[.agg #[.slice none 0 0, .slice none 0 0, .int .i64 0, .bool false], .int .i64 1]) ∧ Below w.heap.size w w' := by
  by_cases h1 : 1 ≤ n
  · have h2 : ¬ n ≤ 4096 := fun h2 => h ⟨h1, h2⟩
    clear h
    go_enter Try.func12, Try.ntmps12
    go_wp2_with fail
    refine bodyPost_ret (v := .tuple #[.agg #[.slice none 0 0, .slice none 0 0, .int .i64 0, .bool false], .int .i64 1]) ?_ rfl ⟨rfl, ?_⟩
    · rw [results_cell_tmp rfl]; go_simp
    · (repeat' (first | exact Below.refl _ _ | refine setCells_below (by simp) _ _ ?_ | refine Below.setCell ?_ (by simp) _ | refine Below.alloc ?_ (by simp) _))
  · clear h
    go_enter Try.func12, Try.ntmps12
    go_wp2_with fail
    refine bodyPost_ret (v := .tuple #[.agg #[.slice none 0 0, .slice none 0 0, .int .i64 0, .bool false], .int .i64 1]) ?_ rfl ⟨rfl, ?_⟩
    · rw [results_cell_tmp rfl]; go_simp
    · (repeat' (first | exact Below.refl _ _ | refine setCells_below (by simp) _ _ ?_ | refine Below.setCell ?_ (by simp) _ | refine Below.alloc ?_ (by simp) _))

theorem rnew_no (n : Int) (h : ¬ (1 ≤ n ∧ n ≤ 4096)) (w : World) :
    Calls Try.prog 13 #[.int .i64 n] w fun e w' => e = .returned (.tuple #[.agg #[.slice none 0 0, .slice none 0 0, .int .i64 0, .bool false], .int .i64 1]) ∧ Below w.heap.size w w' := by
  by_cases h1 : 1 ≤ n
  · have h2 : ¬ n ≤ 4096 := fun h2 => h ⟨h1, h2⟩
    clear h
    go_enter Try.func13, Try.ntmps13
    go_wp2_with fail
    refine bodyPost_ret (v := .tuple #[.agg #[.slice none 0 0, .slice none 0 0, .int .i64 0, .bool false], .int .i64 1]) ?_ rfl ⟨rfl, ?_⟩
    · rw [results_cell_tmp rfl]; go_simp
    · (repeat' (first | exact Below.refl _ _ | refine setCells_below (by simp) _ _ ?_ | refine Below.setCell ?_ (by simp) _ | refine Below.alloc ?_ (by simp) _))
  · clear h
    go_enter Try.func13, Try.ntmps13
    go_wp2_with fail
    refine bodyPost_ret (v := .tuple #[.agg #[.slice none 0 0, .slice none 0 0, .int .i64 0, .bool false], .int .i64 1]) ?_ rfl ⟨rfl, ?_⟩
    · rw [results_cell_tmp rfl]; go_simp
    · (repeat' (first | exact Below.refl _ _ | refine setCells_below (by simp) _ _ ?_ | refine Below.setCell ?_ (by simp) _ | refine Below.alloc ?_ (by simp) _))

set_option maxRecDepth 100000 in
set_option maxHeartbeats 2000000 in
theorem rnew_yes (n : Nat) (h0 : 0 < n) (hm : n ≤ 4096) (w : World) :
    Calls Try.prog 13 #[.int .i64 n] w fun e w' => IsNew n w' e ∧ Below w.heap.size w w' := by
  have hi1 : ¬ ((n : Int) < 1) := by omega
  have hi2 : ¬ (4096 < (n : Int)) := by omega
  go_enter Try.func13, Try.ntmps13
  go_wp2_with fail
  go_loopw [5] (fun i wr => ∃ (k : Nat) (v2 : Value) (l : List Rw), k ≤ n ∧ i = .int .i64 k ∧ l.length = k ∧ Hid (Blk wr (w.heap.size + 1) (dskC_ v2) 25) ∧ Hid (OwnS wr ((w.heap.size + 1) + 1) v2 l) ∧ Hid (Below w.heap.size w wr) ∧ Hid (ZRows ((w.heap.size + 1) + 1) wr l) ∧ Hid (Blk wr w.heap.size #[.slice none 0 0, .slice none 0 0, .int .i64 0, .bool false] 25)) (fun i _ => n - (intOf i).toNat)
  case atStart =>
    refine ⟨0, .slice none 0 0, [], by omega, rfl, rfl, Lib.hid ?_, Lib.hid ⟨rfl, .inl ⟨rfl, rfl⟩⟩, Lib.hid ?_, Lib.hid (fun r hr => by cases hr), Lib.hid ?_⟩
    · have := Blk.new (w.alloc (.cells #[.slice none 0 0, .slice none 0 0, .int .i64 0, .bool false] 25)) (dskC_ (.slice none 0 0)) 25; simpa using this
    · (repeat' (first | exact Below.refl _ _ | refine setCells_below (by simp) _ _ ?_ | refine Below.setCell ?_ (by simp) _ | refine Below.alloc ?_ (by simp) _))
    · exact (Blk.new w #[.slice none 0 0, .slice none 0 0, .int .i64 0, .bool false] 25).alloc _
  case round =>
    obtain ⟨k, v2, l, hk, rfl, hlk, HV, HO, HB, HZ, HT⟩ := hrel
    by_cases hlt : k < n
    · go_upto_region 7 with fail
      refine wp_region_any (by kernel_rfl) ?_
      change wpAny _ _ _ _ _ _ _ (World.drew _)
      generalize hWD : World.drew _ = W
      have BX := Lib.hid (show Blk W (w.heap.size + 1) (dskC_ v2) 25 by rw [← hWD]; exact HV.out)
      have EW := Lib.hid (show Below w.heap.size w W by rw [← hWD]; exact HB.out.drew)
      have OW := Lib.hid (show OwnS W ((w.heap.size + 1) + 1) v2 l by rw [← hWD]; exact HO.out)
      have ZW := Lib.hid (show ZRows ((w.heap.size + 1) + 1) W l by rw [← hWD]; exact HZ.out)
      have hW : (w.heap.size + 1) < W.heap.size := BX.out.lt
      have TW := Lib.hid (show Blk W w.heap.size #[.slice none 0 0, .slice none 0 0, .int .i64 0, .bool false] 25 by rw [← hWD]; exact HT.out)
      clear hWD HV HB HO HZ HT
      have hCD : ∀ u, Ext W u → Ext W u := fun u hu => hu
      refine region_U (D := Ext W) (Ext W) [4, 5, 6] (Ext.refl W) ?_
      refine anyU_takeD (i := 0) (v := .pointer (some ⟨(w.heap.size + 1), 0, none⟩)) 19 rfl rfl (by kernel_rfl) (by kernel_rfl) (by kernel_rfl) (fun _ _ _ h => h) (by kernel_rfl) (Ext.stable _) hCD (yieldsU_val rfl (fun u hu => by go_simp)) ?_
      refine anyU_takeD (i := 1) (v := v2) 20 rfl rfl (by kernel_rfl) (by kernel_rfl) (by kernel_rfl) (fun _ _ _ h => h) (by kernel_rfl) (Ext.stable _) hCD (yieldsU_val rfl (fun u hu => by have c := (BX.out.below hu BX.out.lt).cell 0; go_simp)) ?_
      simp only [Act.put, List.setIfInBounds_toArray, List.set_cons_succ, List.set_cons_zero]
      refine anyU_one 2 4 _ rfl rfl (by kernel_rfl) ?_
      intro u hu
      have MK := run_makeZ u
      go_wp2_with fail
      change ∃ C' : World → Prop, _ ∧ _ ∧ _ ∧ anyU _ _ _ _ _ _ 4 _ _ _
      have hb1 : Below u.heap.size u (u.alloc (.cells zb.toArray 5)) := bel_alloc1 u _
      have Z1 := Lib.hid (Blk.new u zb.toArray 5)
      have E1 := Lib.hid (Ext.trans hu hb1)
      clear MK
      generalize World.alloc u _ = u1 at Z1 E1 hb1 ⊢
      have lt1 : (w.heap.size + 1) < u.heap.size := Nat.lt_of_lt_of_le hW hu.size
      generalize u.heap.size = bb at Z1 lt1 ⊢
      clear hu hb1
      refine anchorF (fun y => Ext W y ∧ Blk y bb zb.toArray 5) (fun y hy => hy.1) ((Ext.stable W).and (fun y z h k => h.below k h.lt)) ⟨E1.out, Z1.out⟩ ?_
      (try simp only [Act.put])
      clear E1 Z1
      refine anyU_one 3 3 _ rfl rfl (by kernel_rfl) ?_
      intro u hu
      go_wp2_with fail
      change ∃ C' : World → Prop, _ ∧ _ ∧ _ ∧ anyU _ _ _ _ _ _ 3 _ _ _
      have hb1 : Below u.heap.size u (u.alloc (.cells #[.slice (some ⟨bb, 0, none⟩) 128 128] 35)) := bel_alloc1 u _
      have Z1 := Lib.hid (Blk.new u #[.slice (some ⟨bb, 0, none⟩) 128 128] 35)
      have E1 := Lib.hid (Ext.trans hu.1 hb1)
      have Y1 := Lib.hid (hu.2.below hb1 hu.2.lt)
      generalize World.alloc u _ = u1 at Z1 E1 Y1 hb1 ⊢
      generalize u.heap.size = bc at Z1 ⊢
      clear hu hb1
      refine anchorF (fun y => Ext W y ∧ Blk y bb zb.toArray 5 ∧ Blk y bc #[.slice (some ⟨bb, 0, none⟩) 128 128] 35) (fun y hy => hy.1) ((Ext.stable W).and (fun y z h k => ⟨h.1.below k h.1.lt, h.2.below k h.2.lt⟩)) ⟨E1.out, Y1.out, Z1.out⟩ ?_
      (try simp only [Act.put])
      clear E1 Y1 Z1
      refine anyU_tail 4 [5, 6] rfl rfl (by decide) (by kernel_rfl) ?_
      intro u2 hu2
      simp only [Act.put, List.filterMap_cons, List.filterMap_nil, List.getElem?_cons_succ, List.getElem?_cons_zero]
      have hzu : (w.heap.size + 1) + 1 ≤ u2.heap.size := Nat.le_trans hW hu2.1.size
      have O2 := Lib.hid (OW.out.below hu2.1)
      have Z2 := Lib.hid (ZW.out.below hu2.1)
      refine appS rfl (.tmp 20) (.tmp 22) rfl ((w.heap.size + 1) + 1) v2 l rfl O2.out bc (ZR bb) rfl hu2.2.2 (by omega) hzu ?_
      intro v3 u3 o3 g3
      have hne : v2.ownBlock ≠ some (w.heap.size + 1) := by
        intro e
        have := (World.ownsRow.lt OW.out) _ e
        omega
      have B3 := Lib.hid (show Blk u3 (w.heap.size + 1) (dskC_ v2) 25 from (g3.block _ (by omega) (fun e => hne e.symm)).trans (BX.out.below hu2.1 BX.out.lt))
      have K3 := Lib.hid (show Below w.heap.size w u3 from EW.out.trans ((Below.mono hu2.1 EW.out.size).trans ⟨g3.os, g3.tape, g3.output, g3.size, fun i hi => g3.block i (by omega) (by intro e; have := (World.ownsRow.lt OW.out) _ e.symm; omega)⟩))
      have R3 := Lib.hid (show ZRows ((w.heap.size + 1) + 1) u3 (l ++ [ZR bb]) from fun r hr => by
        rcases List.mem_append.1 hr with h | h
        · exact (Z2.out.grown O2.out g3) r h
        · obtain rfl : r = ZR bb := by simpa using h
          exact ⟨bb, rfl, lt1, (g3.block bb hu2.2.1.lt (fun e => own_ne O2.out hu2.2.1 e.symm)).trans hu2.2.1⟩)
      have T3 := Lib.hid (show Blk u3 w.heap.size #[.slice none 0 0, .slice none 0 0, .int .i64 0, .bool false] 25 from (g3.block _ (by omega) (fun e => by have := (World.ownsRow.lt OW.out) _ e.symm; omega)).trans (TW.out.below hu2.1 TW.out.lt))
      have O3 := Lib.hid o3
      clear o3 g3 hu2 O2 Z2
      obtain ⟨g4, cap4, hv4, _, _, _, _, _⟩ := OwnS.slice O3.out (by simp)
      obtain ⟨m4, hm4⟩ : ∃ m4, (l ++ [ZR bb]).length = m4 := ⟨_, rfl⟩
      rw [hm4] at hv4
      clear hm4
      subst hv4
      have e3 := B3.out.cell 0
      have f3 := B3.out.frozen 0
      go_wp2_with fail
      refine ⟨⟨k + 1, .slice (some ⟨g4, 0, none⟩) m4 cap4, l ++ [ZR bb], by omega, by simp, by simp [hlk], Lib.hid ?_, Lib.hid ?_, Lib.hid ?_, Lib.hid ?_, Lib.hid ?_⟩, ?_⟩
      · exact B3.out.set 0 _
      · exact OwnS.set O3.out (by omega)
      · exact K3.out.setCell (p := ⟨(w.heap.size + 1), 0, none⟩) (by simp) _
      · exact ZRows.set R3.out (by omega)
      · exact T3.out.other 0 _ (by omega)
      · simp only [intOf]; omega
    · obtain rfl : k = n := by omega
      obtain ⟨g, cap, hv, _⟩ := isNew h0 hlk hm HO.out HZ.out
      subst hv
      obtain ⟨c0, c1, c2, c3, lb⟩ := blk4_facts (show Blk wr (w.heap.size + 1) #[.slice (some ⟨g, 0, none⟩) k cap, .slice none 0 0, .int .i64 (-1), .bool false] 25 from HV.out)
      have VF := Lib.hid (show Blk wr (w.heap.size + 1) #[.slice (some ⟨g, 0, none⟩) k cap, .slice none 0 0, .int .i64 (-1), .bool false] 25 from HV.out)
      have f0 := VF.out.frozen 0; have f1 := VF.out.frozen 1; have f2 := VF.out.frozen 2; have f3 := VF.out.frozen 3
      have e0 := HT.out.frozen 0; have e1 := HT.out.frozen 1; have e2 := HT.out.frozen 2; have e3 := HT.out.frozen 3
      obtain ⟨d0, d1, d2, d3, ld⟩ := blk4_facts HT.out
      clear HV
      go_wp2_with fail
      refine bodyPost_ret (v := .tuple #[.agg (dskC (some ⟨g, 0, none⟩) k cap none 0 0 (-1) false), .int .i64 0]) ?_ rfl ⟨?_, ?_⟩
      · rw [results_cell_tmp rfl]; go_simp
      · exact isNew2 h0 hlk hm ((((HO.out.set (by omega)).set (by omega)).set (by omega)).set (by omega)) ((((HZ.out.set (by omega)).set (by omega)).set (by omega)).set (by omega))
      · (repeat' (first | exact HB.out | refine Below.setCell ?_ (by simp) _))
end Go.Proofs.Ytackklbifppfeaa
