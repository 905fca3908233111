/- The bytes of a state: (*digest.state).bytes. -/
import Derived.Test.YtllcgehfmkmcdaaDoorDigAbs
namespace Go.Proofs.YtllcgehfmkmcdaaDoor
open Go.RowKit
set_option linter.unusedVariables false
set_option linter.unusedSimpArgs false

/-- the bytes of a state, told without their making -/
def IsBytes (s : S8) (ds : List Int) : Prop := ds.length = 32 ∧ ∀ i, i < 8 → ∀ k, k < 4 → s.toList.getD i 0 / 2 ^ (24 - 8 * k) % 256 = ds.getD (4 * i + k) 0
theorem isBytes (s : S8) : IsBytes s (bytesS s) := by
  refine ⟨by simp [bytesS], fun i hi k hk => ?_⟩
  unfold bytesS
  rw [List.getD_eq_getElem?_getD (l := List.map _ _), List.getElem?_map, List.getElem?_range (by omega)]
  simp only [Option.map_some, Option.getD_some]
  rw [show (4 * i + k) / 4 = i by omega, show (4 * i + k) % 4 = k by omega]
theorem zeros32 (w : World) : Blk (w.alloc (.cells #[.int .u8 0, .int .u8 0, .int .u8 0, .int .u8 0, .int .u8 0, .int .u8 0, .int .u8 0, .int .u8 0, .int .u8 0, .int .u8 0, .int .u8 0, .int .u8 0, .int .u8 0, .int .u8 0, .int .u8 0, .int .u8 0, .int .u8 0, .int .u8 0, .int .u8 0, .int .u8 0, .int .u8 0, .int .u8 0, .int .u8 0, .int .u8 0, .int .u8 0, .int .u8 0, .int .u8 0, .int .u8 0, .int .u8 0, .int .u8 0, .int .u8 0, .int .u8 0] 35)) w.heap.size (bv (List.replicate 32 0)).toArray 35 := Blk.new w _ _
theorem size32 (zs : List Int) (h : zs.length = 32) : (Tryd.prog.info? 35).map (·.size) = some (bv zs).toArray.size := by
  simp only [List.size_toArray, bv_len, h]; kernel_rfl
theorem size32' (zs : List Int) (h : zs.length = 32) : (Tryd.prog.info? 35).map (·.size) = some (bv zs).length := by
  rw [bv_len, h]; kernel_rfl
theorem set_inv32 {zs ds : List Int} {k : Nat} {x : Int} (hz : zs.length = 32) (hk : k < 32) (h : ∀ j, j < k → zs.getD j 0 = ds.getD j 0) (hx : x = ds.getD k 0) : ∀ j, j < k + 1 → (zs.set k x).getD j 0 = ds.getD j 0 := by
  intro j hj
  by_cases e : j = k
  · subst e; rw [hx]; simp [List.getD, hz, hk]
  · rw [List.getD_eq_getElem?_getD, List.getElem?_set_ne (by omega), ← List.getD_eq_getElem?_getD]; exact h j (by omega)
theorem same32 {zs ws : List Int} (hz : zs.length = 32) (hw : ws.length = 32) (h : ∀ j, j < 32 → zs.getD j 0 = ws.getD j 0) : zs = ws := by
  apply List.ext_getElem (by rw [hz, hw])
  intro i h1 h2
  have := h i (by omega)
  rwa [List.getD_eq_getElem?_getD, List.getD_eq_getElem?_getD, List.getElem?_eq_getElem h1, List.getElem?_eq_getElem h2] at this

set_option maxRecDepth 100000 in
set_option maxHeartbeats 4000000 in
theorem bytes_any (sb : Nat) (s : S8) (bt : TypeId) (w : World) (hs : Hid (Blk w sb (wv s.toList).toArray bt)) (ds : List Int) (hd : Hid (IsBytes s ds)) :
    Calls Tryd.prog 43 #[.pointer (some ⟨sb, 0, none⟩)] w fun e w' => e = .returned (.agg (bv ds).toArray) ∧ Below w.heap.size w w' := by
  have ls := hs.out.lt
  go_enter Tryd.func43, Tryd.ntmps43
  go_wp2_with fail
  go_loopw [5] (fun x wr => ∃ (i : Nat) (n : Int) (zs : List Int), i ≤ 8 ∧ n = i ∧ x = .int .i64 n ∧ Hid (zs.length = 32) ∧ Hid (∀ j, j < 4 * i → zs.getD j 0 = ds.getD j 0) ∧ Hid (Blk wr w.heap.size (bv zs).toArray 35) ∧ Hid (Blk wr sb (wv s.toList).toArray bt) ∧ Hid (Below w.heap.size w wr)) (fun x _ => 8 - (intOf x).toNat)
  case atStart => exact ⟨0, 0, List.replicate 32 0, by omega, rfl, rfl, Lib.hid (by simp), Lib.hid fun j hj => by omega, Lib.hid (zeros32 w), Lib.hid (hs.out.alloc _), Lib.hid (bel_alloc1 _ _)⟩
  case round =>
    obtain ⟨i, n, zs, hi8, hn, rfl, hz, hv, HT, HS, HB⟩ := hrel
    by_cases hlt : i < 8
    · subst hn
      go_wp2_with fail
      go_loopw [8] (fun x wr => ∃ (k : Nat) (zs : List Int), k ≤ 4 ∧ x = .int .i64 k ∧ Hid (zs.length = 32) ∧ Hid (∀ j, j < 4 * i + k → zs.getD j 0 = ds.getD j 0) ∧ Hid (Blk wr w.heap.size (bv zs).toArray 35) ∧ Hid (Blk wr sb (wv s.toList).toArray bt) ∧ Hid (Below w.heap.size w wr)) (fun x _ => 4 - (intOf x).toNat)
      case atStart => exact ⟨0, zs, by omega, rfl, hz, hv, HT, HS, HB⟩
      case round =>
        clear hz hv HT HS HB hi8
        clear zs
        obtain ⟨k, zs, hk4, rfl, hz, hv, HT, HS, HB⟩ := hrel
        have lT := HT.out.lt
        have lS := HS.out.lt
        by_cases hk : k < 4
        · have e1 := HS.out.cell i
          rw [wv_get _ i (by show i < 8; exact hlt)] at e1
          have g1 := HS.out.frozen i
          obtain ⟨x, hx⟩ : ∃ x, s.toList.getD i 0 = x := ⟨_, rfl⟩
          rw [hx] at e1
          have HX := Lib.hid hx
          clear hx
          rcases (by omega : k = 0 ∨ k = 1 ∨ k = 2 ∨ k = 3) with rfl | rfl | rfl | rfl
          · have e0 := HT.out.cell (4 * i)
            rw [bv_get zs (4 * i) (by have := hz.out; omega)] at e0
            have f0 := HT.out.frozen (4 * i)
            have HV := Lib.hid (hd.out.2 i hlt 0 (by omega))
            rw [HX.out] at HV
            generalize zs.getD (4 * i) 0 = y at e0
            go_wp2_with fail
            go_roundw
            case rel =>
              have hb := HT.out.set (4 * i) (.int .u8 (ds.getD (4 * i) 0))
              rw [bv_set] at hb
              refine ⟨0 + 1, zs.set (4 * i) (ds.getD (4 * i) 0), by omega, rfl, Lib.hid (by rw [List.length_set]; exact hz.out), Lib.hid (set_inv32 hz.out (by omega) hv.out rfl), Lib.hid ?_, Lib.hid ?_, Lib.hid ?_⟩
              · have h := HV.out
                simp only [Nat.mul_zero, Nat.mul_one, Nat.reduceMul, Nat.reduceSub, Nat.sub_zero, Int.reducePow, Nat.add_zero, Nat.sub_self, Int.pow_zero, Int.ediv_one] at h
                try simp only [Nat.add_zero] at hb
                rw [h]
                exact hb
              · exact HS.out.other (b' := w.heap.size) _ _ (by omega)
              · exact HB.out.setCell (p := ⟨w.heap.size, 4 * i, none⟩) (by simp) _
            case measure => simp [intOf]
          · have e0 := HT.out.cell (4 * i + 1)
            rw [bv_get zs (4 * i + 1) (by have := hz.out; omega)] at e0
            have f0 := HT.out.frozen (4 * i + 1)
            have HV := Lib.hid (hd.out.2 i hlt 1 (by omega))
            rw [HX.out] at HV
            generalize zs.getD (4 * i + 1) 0 = y at e0
            go_wp2_with fail
            go_roundw
            case rel =>
              have hb := HT.out.set (4 * i + 1) (.int .u8 (ds.getD (4 * i + 1) 0))
              rw [bv_set] at hb
              refine ⟨1 + 1, zs.set (4 * i + 1) (ds.getD (4 * i + 1) 0), by omega, rfl, Lib.hid (by rw [List.length_set]; exact hz.out), Lib.hid (set_inv32 hz.out (by omega) hv.out rfl), Lib.hid ?_, Lib.hid ?_, Lib.hid ?_⟩
              · have h := HV.out
                simp only [Nat.mul_zero, Nat.mul_one, Nat.reduceMul, Nat.reduceSub, Nat.sub_zero, Int.reducePow, Nat.add_zero, Nat.sub_self, Int.pow_zero, Int.ediv_one] at h
                try simp only [Nat.add_zero] at hb
                rw [h]
                exact hb
              · exact HS.out.other (b' := w.heap.size) _ _ (by omega)
              · exact HB.out.setCell (p := ⟨w.heap.size, 4 * i + 1, none⟩) (by simp) _
            case measure => simp [intOf]
          · have e0 := HT.out.cell (4 * i + 2)
            rw [bv_get zs (4 * i + 2) (by have := hz.out; omega)] at e0
            have f0 := HT.out.frozen (4 * i + 2)
            have HV := Lib.hid (hd.out.2 i hlt 2 (by omega))
            rw [HX.out] at HV
            generalize zs.getD (4 * i + 2) 0 = y at e0
            go_wp2_with fail
            go_roundw
            case rel =>
              have hb := HT.out.set (4 * i + 2) (.int .u8 (ds.getD (4 * i + 2) 0))
              rw [bv_set] at hb
              refine ⟨2 + 1, zs.set (4 * i + 2) (ds.getD (4 * i + 2) 0), by omega, rfl, Lib.hid (by rw [List.length_set]; exact hz.out), Lib.hid (set_inv32 hz.out (by omega) hv.out rfl), Lib.hid ?_, Lib.hid ?_, Lib.hid ?_⟩
              · have h := HV.out
                simp only [Nat.mul_zero, Nat.mul_one, Nat.reduceMul, Nat.reduceSub, Nat.sub_zero, Int.reducePow, Nat.add_zero, Nat.sub_self, Int.pow_zero, Int.ediv_one] at h
                try simp only [Nat.add_zero] at hb
                rw [h]
                exact hb
              · exact HS.out.other (b' := w.heap.size) _ _ (by omega)
              · exact HB.out.setCell (p := ⟨w.heap.size, 4 * i + 2, none⟩) (by simp) _
            case measure => simp [intOf]
          · have e0 := HT.out.cell (4 * i + 3)
            rw [bv_get zs (4 * i + 3) (by have := hz.out; omega)] at e0
            have f0 := HT.out.frozen (4 * i + 3)
            have HV := Lib.hid (hd.out.2 i hlt 3 (by omega))
            rw [HX.out] at HV
            generalize zs.getD (4 * i + 3) 0 = y at e0
            go_wp2_with fail
            go_roundw
            case rel =>
              have hb := HT.out.set (4 * i + 3) (.int .u8 (ds.getD (4 * i + 3) 0))
              rw [bv_set] at hb
              refine ⟨3 + 1, zs.set (4 * i + 3) (ds.getD (4 * i + 3) 0), by omega, rfl, Lib.hid (by rw [List.length_set]; exact hz.out), Lib.hid (set_inv32 hz.out (by omega) hv.out rfl), Lib.hid ?_, Lib.hid ?_, Lib.hid ?_⟩
              · have h := HV.out
                simp only [Nat.mul_zero, Nat.mul_one, Nat.reduceMul, Nat.reduceSub, Nat.sub_zero, Int.reducePow, Nat.add_zero, Nat.sub_self, Int.pow_zero, Int.ediv_one] at h
                try simp only [Nat.add_zero] at hb
                rw [h]
                exact hb
              · exact HS.out.other (b' := w.heap.size) _ _ (by omega)
              · exact HB.out.setCell (p := ⟨w.heap.size, 4 * i + 3, none⟩) (by simp) _
            case measure => simp [intOf]
        · obtain rfl : k = 4 := by omega
          go_wp2_with fail
          go_roundw
          case rel => exact ⟨i + 1, i + 1, zs, by omega, by omega, rfl, hz, Lib.hid fun j hj => hv.out j (by omega), HT, HS, HB⟩
          case measure => simp [intOf]; omega
    · obtain rfl : n = 8 := by omega
      obtain rfl : i = 8 := by omega
      clear hn hlt hi8
      have HE := same32 hz.out hd.out.1 hv.out
      subst HE
      have hz' := hz.out
      have q1 := HT.out.range
      have q2 := size32' zs hz'
      have q3 := size32 zs hz'
      have q4 : wr.there w.heap.size 0 (bv zs).toArray.size := by have := HT.out.there; simpa using this
      have q5 := all_oneCell_toArray (bv_one zs)
      go_upto_region 10 with (fail)
      go_wp2_with (first
        | refine wpList_load_mid rfl 35 _ rfl w.heap.size 0 rfl (bv zs) _ q1 Tryd.underlying35 rfl q2 ?_
        | refine wpList_store_mid rfl 35 _ _ rfl w.heap.size 0 (bv zs).toArray rfl rfl q4 q3 q5 ?_)
      refine bodyPost_ret (v := .agg (bv zs).toArray) (results_cell1 (a := ⟨w.heap.size, 0, none⟩) rfl _ rfl (run_loadVar_mid _ w.heap.size 0 _ (bv zs) _ (HT.out.fill rfl).range Tryd.underlying35 rfl q2)) rfl ⟨rfl, setCells_below (Nat.le_refl _) _ _ HB.out⟩
end Go.Proofs.YtllcgehfmkmcdaaDoor
