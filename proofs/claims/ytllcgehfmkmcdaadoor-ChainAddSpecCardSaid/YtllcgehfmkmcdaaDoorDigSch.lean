/- The words of a block: digest.schedule. -/
import Derived.Test.YtllcgehfmkmcdaaDoorDig0
import Derived.Deep.DeepCutAuto
namespace Go.Proofs.YtllcgehfmkmcdaaDoor
open Go.RowKit
set_option linter.unusedVariables false

/-- bytes, where they lie -/
def BytesAt (w : World) (b off : Nat) (zs : List Int) : Prop := ∀ j, j < zs.length → w.cell? ⟨b, off + j, none⟩ = some (.int .u8 (zs.getD j 0))
theorem BytesAt.below {w w' : World} {n b off : Nat} {zs : List Int} (h : BytesAt w b off zs) (k : Below n w w') (hb : b < n) : BytesAt w' b off zs := fun j hj => (k.cell (p := ⟨b, off + j, none⟩) hb).trans (h j hj)
def word4 (x0 x1 x2 x3 : Int) : Int :=
  bits .or .u32 (bits .or .u32 (bits .or .u32 (x0 % 4294967296 * 16777216 % 4294967296) (x1 % 4294967296 * 65536 % 4294967296)) (x2 % 4294967296 * 256 % 4294967296)) (x3 % 4294967296)
theorem getD_rng {zs : List Int} (h : ∀ z ∈ zs, 0 ≤ z ∧ z ≤ 255) (k : Nat) : 0 ≤ zs.getD k 0 ∧ zs.getD k 0 ≤ 255 := by
  rw [List.getD_eq_getElem?_getD]
  cases hk : zs[k]? with
  | none => simp
  | some z => exact h z (List.mem_of_getElem? hk)
theorem word4_eq (bs : List Int) (h : ∀ z ∈ bs, 0 ≤ z ∧ z ≤ 255) (k : Nat) : word4 (bs.getD (4 * k) 0) (bs.getD (4 * k + 1) 0) (bs.getD (4 * k + 2) 0) (bs.getD (4 * k + 3) 0) = wordOf bs k := by
  have e : ∀ j, bs.getD j 0 % 4294967296 = bs.getD j 0 := fun j => by have := getD_rng h j; omega
  unfold word4 wordOf
  rw [e, e, e, e]
theorem set_inv {zs : List Int} {k m : Nat} {x : Int} {f : Nat → Int} (hz : zs.length = 64) (hk : k < 64) (h : ∀ j, j < k → zs.getD j 0 = f j) (hx : x = f k) : ∀ j, j < k + 1 → (zs.set k x).getD j 0 = f j := by
  intro j hj
  by_cases e : j = k
  · subst e; rw [hx]; simp [List.getD, hz, hk]
  · rw [List.getD_eq_getElem?_getD, List.getElem?_set_ne (by omega), ← List.getD_eq_getElem?_getD]; exact h j (by omega)
/-- the words of a block, told without their making -/
def IsSched (bs ws : List Int) : Prop :=
  ws.length = 64 ∧ (∀ j, j < 16 → ws.getD j 0 = wordOf bs j) ∧ (∀ k, k < 48 → ws.getD (k + 16) 0 = nextW (ws.getD k 0) (ws.getD (k + 1) 0) (ws.getD (k + 9) 0) (ws.getD (k + 14) 0))
theorem isSched (bs : List Int) : IsSched bs (schedL bs 48) :=
  ⟨schedL_len bs 48, fun j hj => schedW_low bs j hj, fun k hk => schedW_next bs k hk⟩
theorem same64 {zs ws : List Int} (hz : zs.length = 64) (hw : ws.length = 64) (h : ∀ j, j < 64 → zs.getD j 0 = ws.getD j 0) : zs = ws := by
  apply List.ext_getElem (by rw [hz, hw])
  intro i h1 h2
  have := h i (by omega)
  rwa [List.getD_eq_getElem?_getD, List.getD_eq_getElem?_getD, List.getElem?_eq_getElem h1, List.getElem?_eq_getElem h2] at this

theorem wrap_add {k j m : Nat} (h : k + m = j) (hj : j < 64) : IntKind.i64.wrap ((k : Int) + (m : Int)) = (j : Int) := by
  rw [show ((k : Int) + (m : Int)) = (j : Int) by omega]
  simp [IntKind.wrap, IntKind.bits, IntKind.signed]
  omega

set_option maxRecDepth 100000 in
set_option maxHeartbeats 4000000 in
theorem sched_any (b off cap : Nat) (bs : List Int) (w : World) (hl : Hid (bs.length = 64)) (hcap : 64 ≤ cap) (hmax : cap ≤ 9223372036854775807) (hb : b < w.heap.size)
    (hc : Hid (BytesAt w b off bs)) (hr : Hid (∀ z ∈ bs, 0 ≤ z ∧ z ≤ 255)) (ws : List Int) (hws : Hid (IsSched bs ws)) :
    Calls Tryd.prog 50 #[.slice (some ⟨b, off, none⟩) 64 cap] w fun e w' => e = .returned (.agg (wv ws).toArray) ∧ Below w.heap.size w w' := by
  go_enter Tryd.func50, Tryd.ntmps50
  go_wp2_with fail
  go_loopw [9] (fun i wr => ∃ (k : Nat) (n : Int) (zs : List Int), k ≤ 16 ∧ n = k ∧ i = .int .i64 n ∧ Hid (Blk wr (w.heap.size + 1) (wv zs).toArray 78) ∧ Hid (Blk wr w.heap.size (wv (List.replicate 64 0)).toArray 78) ∧ Hid (zs.length = 64) ∧ Hid (∀ j, j < k → zs.getD j 0 = ws.getD j 0) ∧ Hid (Below w.heap.size w wr)) (fun i _ => 16 - (intOf i).toNat)
  case atStart =>
    refine ⟨0, 0, List.replicate 64 0, by omega, rfl, rfl, Lib.hid ?_, Lib.hid ?_, Lib.hid (by simp), Lib.hid fun j hj => by omega, Lib.hid ((bel_alloc1 _ _).alloc (by simp) _)⟩
    · have := Blk.new (w.alloc (.cells (wv (List.replicate 64 0)).toArray 78)) (wv (List.replicate 64 0)).toArray 78
      simp only [World.size_alloc] at this
      exact this
    · exact (Blk.new w (wv (List.replicate 64 0)).toArray 78).alloc _
  case round =>
    obtain ⟨k, n, zs, hk, hn, rfl, h1, h0, hz, hv, HB⟩ := hrel
    have l1 := h1.out.lt
    have l0 := h0.out.lt
    by_cases hlt : k < 16
    · subst hn
      have hcc := hc.out.below HB.out hb
      have hb' : b < wr.heap.size := Nat.lt_of_lt_of_le hb HB.out.size
      have c0 := hcc (4 * k) (by have := hl.out; omega)
      have c1 := hcc (4 * k + 1) (by have := hl.out; omega)
      have c2 := hcc (4 * k + 2) (by have := hl.out; omega)
      have c3 := hcc (4 * k + 3) (by have := hl.out; omega)
      rw [← Nat.add_assoc] at c1 c2 c3
      have e0 := h1.out.cell k
      rw [wv_get zs k (by have := hz.out; omega)] at e0
      have f0 := h1.out.frozen k
      have HW := Lib.hid (word4_eq bs hr.out k)
      generalize bs.getD (4 * k) 0 = x0 at c0 HW
      generalize bs.getD (4 * k + 1) 0 = x1 at c1 HW
      generalize bs.getD (4 * k + 2) 0 = x2 at c2 HW
      generalize bs.getD (4 * k + 3) 0 = x3 at c3 HW
      generalize zs.getD k 0 = y at e0
      clear hcc
      go_wp2_with fail
      go_region
      go_wp2_with fail
      go_roundw
      case rel =>
        refine ⟨k + 1, k + 1, zs.set k (word4 x0 x1 x2 x3), by omega, by omega, rfl, Lib.hid ?_, Lib.hid ?_, Lib.hid (by rw [List.length_set]; exact hz.out), Lib.hid ?_, Lib.hid ?_⟩
        · have := (h1.out.set k (.int .u32 (word4 x0 x1 x2 x3))).drew
          rw [wv_set] at this; exact this
        · exact (h0.out.other (b' := w.heap.size + 1) k _ (by omega)).drew
        · exact set_inv (m := 0) hz.out (by omega) (f := fun j => ws.getD j 0) hv.out (by rw [HW.out, hws.out.2.1 k hlt])
        · exact (HB.out.setCell (p := ⟨w.heap.size + 1, k, none⟩) (by simp) _).drew
      case measure => simp [intOf]; omega
    · obtain rfl : n = 16 := by omega
      obtain rfl : k = 16 := by omega
      clear hn
      go_wp2_with fail
      go_loopw [44] (fun i wr => ∃ (k : Nat) (zs : List Int), k ≤ 48 ∧ i = .int .i64 k ∧ Hid (Blk wr (w.heap.size + 1) (wv zs).toArray 78) ∧ Hid (Blk wr w.heap.size (wv (List.replicate 64 0)).toArray 78) ∧ Hid (zs.length = 64) ∧ Hid (∀ j, j < k + 16 → zs.getD j 0 = ws.getD j 0) ∧ Hid (Below w.heap.size w wr)) (fun i _ => 48 - (intOf i).toNat)
      case atStart => exact ⟨0, zs, by omega, rfl, h1, h0, hz, hv, HB⟩
      case round =>
        clear hlt hk hz hv HB h1 h0 l1 l0
        clear zs
        obtain ⟨k, zs, hk, rfl, h1, h0, hz, hv, HB⟩ := hrel
        have l1 := h1.out.lt
        have l0 := h0.out.lt
        by_cases hlt : k < 48
        · have e0 := h1.out.cell k
          have e1 := h1.out.cell (k + 1)
          have e9 := h1.out.cell (k + 9)
          have e14 := h1.out.cell (k + 14)
          have e16 := h1.out.cell (k + 16)
          rw [wv_get zs _ (by have := hz.out; omega)] at e0 e1 e9 e14 e16
          have f16 := h1.out.frozen (k + 16)
          have HN := Lib.hid (hws.out.2.2 k hlt)
          rw [hv.out k (by omega)] at e0
          rw [hv.out (k + 1) (by omega)] at e1
          rw [hv.out (k + 9) (by omega)] at e9
          rw [hv.out (k + 14) (by omega)] at e14
          generalize ws.getD k 0 = x at e0 HN
          generalize ws.getD (k + 1) 0 = y at e1 HN
          generalize ws.getD (k + 9) 0 = z at e9 HN
          generalize ws.getD (k + 14) 0 = u at e14 HN
          generalize zs.getD (k + 16) 0 = t at e16
          go_wp2_with fail
          go_quiet (fail)
          go_wp2_with fail
          generalize hwq : wr.drewN nq = wq
          have B1 : Blk wq (w.heap.size + 1) (wv zs).toArray 78 := by rw [← hwq]; simpa [Blk] using h1.out
          have B0 : Blk wq w.heap.size (wv (List.replicate 64 0)).toArray 78 := by rw [← hwq]; simpa [Blk] using h0.out
          have BB : Below w.heap.size w wq := by rw [← hwq]; exact bel_dn HB.out _
          have b0 := B1.cell k
          have b9 := B1.cell (k + 9)
          have b16 := B1.cell (k + 16)
          rw [h1.out.cell] at e0 e9 e16
          rw [e0] at b0
          rw [e9] at b9
          rw [e16] at b16
          have g16 := B1.frozen (k + 16)
          have m1 := B1.lt
          clear e0 e1 e9 e14 e16 f16 hwq
          have i0 : (k : Int) < 64 := by omega
          obtain ⟨k9, h9⟩ : ∃ j, k + 9 = j := ⟨_, rfl⟩
          obtain ⟨k16, h16⟩ : ∃ j, k + 16 = j := ⟨_, rfl⟩
          have w9 : IntKind.i64.wrap ((k : Int) + 9) = (k9 : Int) := wrap_add (by omega) (by omega)
          have w16 : IntKind.i64.wrap ((k : Int) + 16) = (k16 : Int) := wrap_add (by omega) (by omega)
          have i9 : (k9 : Int) < 64 := by omega
          have i16 : (k16 : Int) < 64 := by omega
          rw [h9] at b9
          rw [h16] at b16 g16
          have H16 := Lib.hid h16
          clear h9 h16
          refine wp_region_still_tail 29 (by kernel_rfl) (by kernel_rfl) ?_
          change wpStill _ _ wq.drew _ _ _
          simp only [List.take_succ_cons, List.take_zero, List.drop_succ_cons, List.drop_zero]
          iterate 6 still_step
          still_call (ror7_c y _)
          still_step
          still_call (ror18_c y _)
          iterate 11 still_step
          still_call (ror17_c u _)
          still_step
          still_call (ror19_c u _)
          iterate 6 still_step
          refine wpStill_nil ?_
          change wpList _ _ _ _ _ wq.drew
          go_wp2_with fail
          go_roundw
          case rel =>
            have K16 := H16.out
            refine ⟨k + 1, zs.set k16 (nextW x y z u), by omega, by go_num, Lib.hid ?_, Lib.hid ?_, Lib.hid (by rw [List.length_set]; exact hz.out), Lib.hid ?_, Lib.hid ?_⟩
            · have := (B1.set k16 (.int .u32 (nextW x y z u))).drew
              rw [wv_set] at this; exact this
            · exact (B0.other (b' := w.heap.size + 1) k16 _ (by omega)).drew
            · rw [show k + 1 + 16 = k16 + 1 by omega]
              exact set_inv (m := 0) (f := fun j => ws.getD j 0) hz.out (by omega) (by rw [← K16]; exact hv.out) (by rw [← HN.out, K16])
            · exact (BB.setCell (p := ⟨w.heap.size + 1, k16, none⟩) (by simp) _).drew
          case measure => simp [intOf]; omega
        · obtain rfl : k = 48 := by omega
          have HE := same64 hz.out hws.out.1 hv.out
          subst HE
          have hz' := hz.out
          go_upto_region 14 with (fail)
          go_wp2_with (first
            | refine wpList_load_mid rfl 78 _ rfl (w.heap.size + 1) 0 rfl (wv zs) _ h1.out.range Tryd.underlying78 rfl (by rw [wv_len, hz']; kernel_rfl) ?_
            | refine wpList_store_mid rfl 78 _ _ rfl w.heap.size 0 (wv zs).toArray rfl rfl (by have := h0.out.there; simpa [wv_len, hz'] using this) (by simp only [List.size_toArray, wv_len, hz']; kernel_rfl) (all_oneCell_toArray (wv_one zs)) ?_)
          refine bodyPost_ret (v := .agg (wv zs).toArray) (results_cell1 (a := ⟨w.heap.size, 0, none⟩) rfl _ rfl (run_loadVar_mid _ w.heap.size 0 _ (wv zs) _ (h0.out.fill (by simp [wv, hz'])).range Tryd.underlying78 rfl (by rw [wv_len, hz']; kernel_rfl))) rfl ⟨rfl, setCells_below (Nat.le_refl _) _ _ HB.out⟩
end Go.Proofs.YtllcgehfmkmcdaaDoor
