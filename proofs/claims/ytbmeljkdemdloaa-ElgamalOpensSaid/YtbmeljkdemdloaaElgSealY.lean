/- Package elgamal: Seal at a key that is an element. -/
import Derived.Deep.RegionWith
import Derived.Test.YtbmeljkdemdloaaElgSeal
namespace Go.Proofs.Ytbmeljkdemdloaa
open Go.RowKit Go.Shelf
set_option linter.unusedVariables false

set_option maxRecDepth 100000 in
set_option maxHeartbeats 4000000 in
theorem seal_yes (key n0 n1 n2 r0 r1 r2 : Int) (w : World) (hv : elB key = true) (L : Let) (E : Int)
    (hY : Hid (wordB n0 = true ∧ wordB n1 = true ∧ wordB n2 = true → L = sealL key n0 n1 n2 r0 r1 r2 ∧ E = 0)) (hN : Hid (wordB n0 = false ∨ wordB n1 = false ∨ wordB n2 = false → L = zeroL ∧ E = 100)) :
    Calls Try.prog 15 #[.int .i64 key, .agg #[.int .i64 n0, .int .i64 n1, .int .i64 n2], .agg #[.int .i64 r0, .int .i64 r1, .int .i64 r2]] w
      fun e w' => e = .returned (.tuple #[letV L, .int .i64 E]) ∧ Below w.heap.size w w' := by
  have i0 : ∀ w, (Instr.index 30 (.agg #[.int .i64 n0, .int .i64 n1, .int .i64 n2]) (.int .i64 0)).run Try.prog w = .ok (.int .i64 n0) w := fun _ => by kernel_rfl
  have i1 : ∀ w, (Instr.index 30 (.agg #[.int .i64 n0, .int .i64 n1, .int .i64 n2]) (.int .i64 1)).run Try.prog w = .ok (.int .i64 n1) w := fun _ => by kernel_rfl
  have i2 : ∀ w, (Instr.index 30 (.agg #[.int .i64 n0, .int .i64 n1, .int .i64 n2]) (.int .i64 2)).run Try.prog w = .ok (.int .i64 n2) w := fun _ => by kernel_rfl
  go_enter Try.func15, Try.ntmps15
  go_wp2_with fail
  refine (val_c key true _ hv).mono ?_; rintro e w' ⟨rfl, rfl⟩
  obtain ⟨W, hW⟩ : ∃ W, ((w.alloc (.cells #[.int .i64 n0, .int .i64 n1, .int .i64 n2] 30)).alloc (.cells #[.int .i64 r0, .int .i64 r1, .int .i64 r2] 29)).alloc (.cells #[.int .i64 0, .int .i64 0, .int .i64 0, .int .i64 0, .int .i64 0, .int .i64 0] 34) = W := ⟨_, rfl⟩
  have hB : Below w.heap.size w W := by rw [← hW]; exact ((bel_alloc1 _ _).alloc (by simp) _).alloc (by simp; omega) _
  have k0 : Blk W w.heap.size #[.int .i64 n0, .int .i64 n1, .int .i64 n2] 30 := by
    rw [← hW]; exact ((Blk.new w _ _).alloc _).alloc _
  have k1 : Blk W (w.heap.size + 1) #[.int .i64 r0, .int .i64 r1, .int .i64 r2] 29 := by
    rw [← hW]; have h := Blk.new (w.alloc (.cells #[.int .i64 n0, .int .i64 n1, .int .i64 n2] 30)) #[.int .i64 r0, .int .i64 r1, .int .i64 r2] 29
    rw [World.size_alloc] at h; exact h.alloc _
  have k2 : Blk W (w.heap.size + 1 + 1) #[.int .i64 0, .int .i64 0, .int .i64 0, .int .i64 0, .int .i64 0, .int .i64 0] 34 := by
    rw [← hW]; have h := Blk.new ((w.alloc (.cells #[.int .i64 n0, .int .i64 n1, .int .i64 n2] 30)).alloc (.cells #[.int .i64 r0, .int .i64 r1, .int .i64 r2] 29)) #[.int .i64 0, .int .i64 0, .int .i64 0, .int .i64 0, .int .i64 0, .int .i64 0] 34
    rw [World.size_alloc, World.size_alloc] at h; exact h
  rw [hW]
  clear hW hv
  have K0 := Lib.hid k0; have K1 := Lib.hid k1; have K2 := Lib.hid k2; have HB := Lib.hid hB
  have a0 := k0.cell 0; have a1 := k0.cell 1; have a2 := k0.cell 2
  have z0 := k2.cell 0; have z1 := k2.cell 1; have z2 := k2.cell 2; have z3 := k2.cell 3; have z4 := k2.cell 4; have z5 := k2.cell 5
  have f0 := k2.frozen 0; have f1 := k2.frozen 1; have f2 := k2.frozen 2; have f3 := k2.frozen 3; have f4 := k2.frozen 4; have f5 := k2.frozen 5
  simp at a0 a1 a2 z0 z1 z2 z3 z4 z5
  clear k0 k1 k2 hB
  go_wp2
  go_loop [15] (fun i => i = .int .i64 0 ∨ (i = .int .i64 1 ∧ Hid (wordB n0 = true)) ∨ (i = .int .i64 2 ∧ Hid (wordB n0 = true ∧ wordB n1 = true)) ∨ (i = .int .i64 3 ∧ Hid (wordB n0 = true ∧ wordB n1 = true ∧ wordB n2 = true))) (fun i => (3 - intOf i).toNat)
  case atStart => exact .inl rfl
  case round =>
    rcases hrel with rfl | ⟨rfl, hp⟩ | ⟨rfl, hp⟩ | ⟨rfl, hp⟩
    · skip
      by_cases hw : wordB n0 = true
      · have HN : 1 ≤ n0 ∧ n0 ≤ 1073741789 := of_decide_eq_true hw
        obtain ⟨h1, h2⟩ := HN
        have HW := Lib.hid hw; clear hw
        go_wp2
        go_round
        case rel => exact .inr (.inl ⟨rfl, HW⟩)
        case measure => simp [intOf]
      · have hw : wordB n0 = false := by simpa using hw
        have HN : ¬ (1 ≤ n0 ∧ n0 ≤ 1073741789) := of_decide_eq_false hw
        have HW := Lib.hid hw; clear hw
        by_cases h1 : n0 < 1
        · clear HN
          go_wp2
          have hJ : Blk ((((((W.setCell ⟨w.heap.size + 1 + 1, 0, none⟩ (.int .i64 0)).setCell ⟨w.heap.size + 1 + 1, 1, none⟩ (.int .i64 0)).setCell ⟨w.heap.size + 1 + 1, 2, none⟩ (.int .i64 0)).setCell ⟨w.heap.size + 1 + 1, 3, none⟩ (.int .i64 0)).setCell ⟨w.heap.size + 1 + 1, 4, none⟩ (.int .i64 0)).setCell ⟨w.heap.size + 1 + 1, 5, none⟩ (.int .i64 0)) (w.heap.size + 1 + 1) #[.int .i64 0, .int .i64 0, .int .i64 0, .int .i64 0, .int .i64 0, .int .i64 0] 34 := ((((((K2.out.set 0 (.int .i64 0)).set 1 (.int .i64 0)).set 2 (.int .i64 0)).set 3 (.int .i64 0)).set 4 (.int .i64 0)).set 5 (.int .i64 0))
          have hBw : Below w.heap.size w ((((((W.setCell ⟨w.heap.size + 1 + 1, 0, none⟩ (.int .i64 0)).setCell ⟨w.heap.size + 1 + 1, 1, none⟩ (.int .i64 0)).setCell ⟨w.heap.size + 1 + 1, 2, none⟩ (.int .i64 0)).setCell ⟨w.heap.size + 1 + 1, 3, none⟩ (.int .i64 0)).setCell ⟨w.heap.size + 1 + 1, 4, none⟩ (.int .i64 0)).setCell ⟨w.heap.size + 1 + 1, 5, none⟩ (.int .i64 0)) := ((((((HB.out.setCell (p := ⟨w.heap.size + 1 + 1, 0, none⟩) (by simp; omega) _).setCell (p := ⟨w.heap.size + 1 + 1, 1, none⟩) (by simp; omega) _).setCell (p := ⟨w.heap.size + 1 + 1, 2, none⟩) (by simp; omega) _).setCell (p := ⟨w.heap.size + 1 + 1, 3, none⟩) (by simp; omega) _).setCell (p := ⟨w.heap.size + 1 + 1, 4, none⟩) (by simp; omega) _).setCell (p := ⟨w.heap.size + 1 + 1, 5, none⟩) (by simp; omega) _)
          generalize ((((((W.setCell ⟨w.heap.size + 1 + 1, 0, none⟩ (.int .i64 0)).setCell ⟨w.heap.size + 1 + 1, 1, none⟩ (.int .i64 0)).setCell ⟨w.heap.size + 1 + 1, 2, none⟩ (.int .i64 0)).setCell ⟨w.heap.size + 1 + 1, 3, none⟩ (.int .i64 0)).setCell ⟨w.heap.size + 1 + 1, 4, none⟩ (.int .i64 0)).setCell ⟨w.heap.size + 1 + 1, 5, none⟩ (.int .i64 0)) = W2 at hJ hBw ⊢
          obtain ⟨e0, e1, e2, e3, e4, e5⟩ := res6_ret hJ
          refine bodyPost_ret (v := .tuple #[letV zeroL, .int .i64 100]) (by simp [results, Try.f15, go_sem, zeroL, e0, e1, e2, e3, e4, e5]) rfl ⟨by rw [(hN.out (.inl HW.out)).1, (hN.out (.inl HW.out)).2], hBw⟩
        · have h2 : 1073741789 < n0 := by omega
          clear HN
          go_wp2
          have hJ : Blk ((((((W.setCell ⟨w.heap.size + 1 + 1, 0, none⟩ (.int .i64 0)).setCell ⟨w.heap.size + 1 + 1, 1, none⟩ (.int .i64 0)).setCell ⟨w.heap.size + 1 + 1, 2, none⟩ (.int .i64 0)).setCell ⟨w.heap.size + 1 + 1, 3, none⟩ (.int .i64 0)).setCell ⟨w.heap.size + 1 + 1, 4, none⟩ (.int .i64 0)).setCell ⟨w.heap.size + 1 + 1, 5, none⟩ (.int .i64 0)) (w.heap.size + 1 + 1) #[.int .i64 0, .int .i64 0, .int .i64 0, .int .i64 0, .int .i64 0, .int .i64 0] 34 := ((((((K2.out.set 0 (.int .i64 0)).set 1 (.int .i64 0)).set 2 (.int .i64 0)).set 3 (.int .i64 0)).set 4 (.int .i64 0)).set 5 (.int .i64 0))
          have hBw : Below w.heap.size w ((((((W.setCell ⟨w.heap.size + 1 + 1, 0, none⟩ (.int .i64 0)).setCell ⟨w.heap.size + 1 + 1, 1, none⟩ (.int .i64 0)).setCell ⟨w.heap.size + 1 + 1, 2, none⟩ (.int .i64 0)).setCell ⟨w.heap.size + 1 + 1, 3, none⟩ (.int .i64 0)).setCell ⟨w.heap.size + 1 + 1, 4, none⟩ (.int .i64 0)).setCell ⟨w.heap.size + 1 + 1, 5, none⟩ (.int .i64 0)) := ((((((HB.out.setCell (p := ⟨w.heap.size + 1 + 1, 0, none⟩) (by simp; omega) _).setCell (p := ⟨w.heap.size + 1 + 1, 1, none⟩) (by simp; omega) _).setCell (p := ⟨w.heap.size + 1 + 1, 2, none⟩) (by simp; omega) _).setCell (p := ⟨w.heap.size + 1 + 1, 3, none⟩) (by simp; omega) _).setCell (p := ⟨w.heap.size + 1 + 1, 4, none⟩) (by simp; omega) _).setCell (p := ⟨w.heap.size + 1 + 1, 5, none⟩) (by simp; omega) _)
          generalize ((((((W.setCell ⟨w.heap.size + 1 + 1, 0, none⟩ (.int .i64 0)).setCell ⟨w.heap.size + 1 + 1, 1, none⟩ (.int .i64 0)).setCell ⟨w.heap.size + 1 + 1, 2, none⟩ (.int .i64 0)).setCell ⟨w.heap.size + 1 + 1, 3, none⟩ (.int .i64 0)).setCell ⟨w.heap.size + 1 + 1, 4, none⟩ (.int .i64 0)).setCell ⟨w.heap.size + 1 + 1, 5, none⟩ (.int .i64 0)) = W2 at hJ hBw ⊢
          obtain ⟨e0, e1, e2, e3, e4, e5⟩ := res6_ret hJ
          refine bodyPost_ret (v := .tuple #[letV zeroL, .int .i64 100]) (by simp [results, Try.f15, go_sem, zeroL, e0, e1, e2, e3, e4, e5]) rfl ⟨by rw [(hN.out (.inl HW.out)).1, (hN.out (.inl HW.out)).2], hBw⟩
    · skip
      by_cases hw : wordB n1 = true
      · have HN : 1 ≤ n1 ∧ n1 ≤ 1073741789 := of_decide_eq_true hw
        obtain ⟨h1, h2⟩ := HN
        have HW := Lib.hid hw; clear hw
        go_wp2
        go_round
        case rel => exact .inr (.inr (.inl ⟨rfl, Lib.hid ⟨hp.out, HW.out⟩⟩))
        case measure => simp [intOf]
      · have hw : wordB n1 = false := by simpa using hw
        have HN : ¬ (1 ≤ n1 ∧ n1 ≤ 1073741789) := of_decide_eq_false hw
        have HW := Lib.hid hw; clear hw
        by_cases h1 : n1 < 1
        · clear HN
          go_wp2
          have hJ : Blk ((((((W.setCell ⟨w.heap.size + 1 + 1, 0, none⟩ (.int .i64 0)).setCell ⟨w.heap.size + 1 + 1, 1, none⟩ (.int .i64 0)).setCell ⟨w.heap.size + 1 + 1, 2, none⟩ (.int .i64 0)).setCell ⟨w.heap.size + 1 + 1, 3, none⟩ (.int .i64 0)).setCell ⟨w.heap.size + 1 + 1, 4, none⟩ (.int .i64 0)).setCell ⟨w.heap.size + 1 + 1, 5, none⟩ (.int .i64 0)) (w.heap.size + 1 + 1) #[.int .i64 0, .int .i64 0, .int .i64 0, .int .i64 0, .int .i64 0, .int .i64 0] 34 := ((((((K2.out.set 0 (.int .i64 0)).set 1 (.int .i64 0)).set 2 (.int .i64 0)).set 3 (.int .i64 0)).set 4 (.int .i64 0)).set 5 (.int .i64 0))
          have hBw : Below w.heap.size w ((((((W.setCell ⟨w.heap.size + 1 + 1, 0, none⟩ (.int .i64 0)).setCell ⟨w.heap.size + 1 + 1, 1, none⟩ (.int .i64 0)).setCell ⟨w.heap.size + 1 + 1, 2, none⟩ (.int .i64 0)).setCell ⟨w.heap.size + 1 + 1, 3, none⟩ (.int .i64 0)).setCell ⟨w.heap.size + 1 + 1, 4, none⟩ (.int .i64 0)).setCell ⟨w.heap.size + 1 + 1, 5, none⟩ (.int .i64 0)) := ((((((HB.out.setCell (p := ⟨w.heap.size + 1 + 1, 0, none⟩) (by simp; omega) _).setCell (p := ⟨w.heap.size + 1 + 1, 1, none⟩) (by simp; omega) _).setCell (p := ⟨w.heap.size + 1 + 1, 2, none⟩) (by simp; omega) _).setCell (p := ⟨w.heap.size + 1 + 1, 3, none⟩) (by simp; omega) _).setCell (p := ⟨w.heap.size + 1 + 1, 4, none⟩) (by simp; omega) _).setCell (p := ⟨w.heap.size + 1 + 1, 5, none⟩) (by simp; omega) _)
          generalize ((((((W.setCell ⟨w.heap.size + 1 + 1, 0, none⟩ (.int .i64 0)).setCell ⟨w.heap.size + 1 + 1, 1, none⟩ (.int .i64 0)).setCell ⟨w.heap.size + 1 + 1, 2, none⟩ (.int .i64 0)).setCell ⟨w.heap.size + 1 + 1, 3, none⟩ (.int .i64 0)).setCell ⟨w.heap.size + 1 + 1, 4, none⟩ (.int .i64 0)).setCell ⟨w.heap.size + 1 + 1, 5, none⟩ (.int .i64 0)) = W2 at hJ hBw ⊢
          obtain ⟨e0, e1, e2, e3, e4, e5⟩ := res6_ret hJ
          refine bodyPost_ret (v := .tuple #[letV zeroL, .int .i64 100]) (by simp [results, Try.f15, go_sem, zeroL, e0, e1, e2, e3, e4, e5]) rfl ⟨by rw [(hN.out (.inr (.inl HW.out))).1, (hN.out (.inr (.inl HW.out))).2], hBw⟩
        · have h2 : 1073741789 < n1 := by omega
          clear HN
          go_wp2
          have hJ : Blk ((((((W.setCell ⟨w.heap.size + 1 + 1, 0, none⟩ (.int .i64 0)).setCell ⟨w.heap.size + 1 + 1, 1, none⟩ (.int .i64 0)).setCell ⟨w.heap.size + 1 + 1, 2, none⟩ (.int .i64 0)).setCell ⟨w.heap.size + 1 + 1, 3, none⟩ (.int .i64 0)).setCell ⟨w.heap.size + 1 + 1, 4, none⟩ (.int .i64 0)).setCell ⟨w.heap.size + 1 + 1, 5, none⟩ (.int .i64 0)) (w.heap.size + 1 + 1) #[.int .i64 0, .int .i64 0, .int .i64 0, .int .i64 0, .int .i64 0, .int .i64 0] 34 := ((((((K2.out.set 0 (.int .i64 0)).set 1 (.int .i64 0)).set 2 (.int .i64 0)).set 3 (.int .i64 0)).set 4 (.int .i64 0)).set 5 (.int .i64 0))
          have hBw : Below w.heap.size w ((((((W.setCell ⟨w.heap.size + 1 + 1, 0, none⟩ (.int .i64 0)).setCell ⟨w.heap.size + 1 + 1, 1, none⟩ (.int .i64 0)).setCell ⟨w.heap.size + 1 + 1, 2, none⟩ (.int .i64 0)).setCell ⟨w.heap.size + 1 + 1, 3, none⟩ (.int .i64 0)).setCell ⟨w.heap.size + 1 + 1, 4, none⟩ (.int .i64 0)).setCell ⟨w.heap.size + 1 + 1, 5, none⟩ (.int .i64 0)) := ((((((HB.out.setCell (p := ⟨w.heap.size + 1 + 1, 0, none⟩) (by simp; omega) _).setCell (p := ⟨w.heap.size + 1 + 1, 1, none⟩) (by simp; omega) _).setCell (p := ⟨w.heap.size + 1 + 1, 2, none⟩) (by simp; omega) _).setCell (p := ⟨w.heap.size + 1 + 1, 3, none⟩) (by simp; omega) _).setCell (p := ⟨w.heap.size + 1 + 1, 4, none⟩) (by simp; omega) _).setCell (p := ⟨w.heap.size + 1 + 1, 5, none⟩) (by simp; omega) _)
          generalize ((((((W.setCell ⟨w.heap.size + 1 + 1, 0, none⟩ (.int .i64 0)).setCell ⟨w.heap.size + 1 + 1, 1, none⟩ (.int .i64 0)).setCell ⟨w.heap.size + 1 + 1, 2, none⟩ (.int .i64 0)).setCell ⟨w.heap.size + 1 + 1, 3, none⟩ (.int .i64 0)).setCell ⟨w.heap.size + 1 + 1, 4, none⟩ (.int .i64 0)).setCell ⟨w.heap.size + 1 + 1, 5, none⟩ (.int .i64 0)) = W2 at hJ hBw ⊢
          obtain ⟨e0, e1, e2, e3, e4, e5⟩ := res6_ret hJ
          refine bodyPost_ret (v := .tuple #[letV zeroL, .int .i64 100]) (by simp [results, Try.f15, go_sem, zeroL, e0, e1, e2, e3, e4, e5]) rfl ⟨by rw [(hN.out (.inr (.inl HW.out))).1, (hN.out (.inr (.inl HW.out))).2], hBw⟩
    · skip
      by_cases hw : wordB n2 = true
      · have HN : 1 ≤ n2 ∧ n2 ≤ 1073741789 := of_decide_eq_true hw
        obtain ⟨h1, h2⟩ := HN
        have HW := Lib.hid hw; clear hw
        go_wp2
        go_round
        case rel => exact .inr (.inr (.inr ⟨rfl, Lib.hid ⟨hp.out.1, hp.out.2, HW.out⟩⟩))
        case measure => simp [intOf]
      · have hw : wordB n2 = false := by simpa using hw
        have HN : ¬ (1 ≤ n2 ∧ n2 ≤ 1073741789) := of_decide_eq_false hw
        have HW := Lib.hid hw; clear hw
        by_cases h1 : n2 < 1
        · clear HN
          go_wp2
          have hJ : Blk ((((((W.setCell ⟨w.heap.size + 1 + 1, 0, none⟩ (.int .i64 0)).setCell ⟨w.heap.size + 1 + 1, 1, none⟩ (.int .i64 0)).setCell ⟨w.heap.size + 1 + 1, 2, none⟩ (.int .i64 0)).setCell ⟨w.heap.size + 1 + 1, 3, none⟩ (.int .i64 0)).setCell ⟨w.heap.size + 1 + 1, 4, none⟩ (.int .i64 0)).setCell ⟨w.heap.size + 1 + 1, 5, none⟩ (.int .i64 0)) (w.heap.size + 1 + 1) #[.int .i64 0, .int .i64 0, .int .i64 0, .int .i64 0, .int .i64 0, .int .i64 0] 34 := ((((((K2.out.set 0 (.int .i64 0)).set 1 (.int .i64 0)).set 2 (.int .i64 0)).set 3 (.int .i64 0)).set 4 (.int .i64 0)).set 5 (.int .i64 0))
          have hBw : Below w.heap.size w ((((((W.setCell ⟨w.heap.size + 1 + 1, 0, none⟩ (.int .i64 0)).setCell ⟨w.heap.size + 1 + 1, 1, none⟩ (.int .i64 0)).setCell ⟨w.heap.size + 1 + 1, 2, none⟩ (.int .i64 0)).setCell ⟨w.heap.size + 1 + 1, 3, none⟩ (.int .i64 0)).setCell ⟨w.heap.size + 1 + 1, 4, none⟩ (.int .i64 0)).setCell ⟨w.heap.size + 1 + 1, 5, none⟩ (.int .i64 0)) := ((((((HB.out.setCell (p := ⟨w.heap.size + 1 + 1, 0, none⟩) (by simp; omega) _).setCell (p := ⟨w.heap.size + 1 + 1, 1, none⟩) (by simp; omega) _).setCell (p := ⟨w.heap.size + 1 + 1, 2, none⟩) (by simp; omega) _).setCell (p := ⟨w.heap.size + 1 + 1, 3, none⟩) (by simp; omega) _).setCell (p := ⟨w.heap.size + 1 + 1, 4, none⟩) (by simp; omega) _).setCell (p := ⟨w.heap.size + 1 + 1, 5, none⟩) (by simp; omega) _)
          generalize ((((((W.setCell ⟨w.heap.size + 1 + 1, 0, none⟩ (.int .i64 0)).setCell ⟨w.heap.size + 1 + 1, 1, none⟩ (.int .i64 0)).setCell ⟨w.heap.size + 1 + 1, 2, none⟩ (.int .i64 0)).setCell ⟨w.heap.size + 1 + 1, 3, none⟩ (.int .i64 0)).setCell ⟨w.heap.size + 1 + 1, 4, none⟩ (.int .i64 0)).setCell ⟨w.heap.size + 1 + 1, 5, none⟩ (.int .i64 0)) = W2 at hJ hBw ⊢
          obtain ⟨e0, e1, e2, e3, e4, e5⟩ := res6_ret hJ
          refine bodyPost_ret (v := .tuple #[letV zeroL, .int .i64 100]) (by simp [results, Try.f15, go_sem, zeroL, e0, e1, e2, e3, e4, e5]) rfl ⟨by rw [(hN.out (.inr (.inr HW.out))).1, (hN.out (.inr (.inr HW.out))).2], hBw⟩
        · have h2 : 1073741789 < n2 := by omega
          clear HN
          go_wp2
          have hJ : Blk ((((((W.setCell ⟨w.heap.size + 1 + 1, 0, none⟩ (.int .i64 0)).setCell ⟨w.heap.size + 1 + 1, 1, none⟩ (.int .i64 0)).setCell ⟨w.heap.size + 1 + 1, 2, none⟩ (.int .i64 0)).setCell ⟨w.heap.size + 1 + 1, 3, none⟩ (.int .i64 0)).setCell ⟨w.heap.size + 1 + 1, 4, none⟩ (.int .i64 0)).setCell ⟨w.heap.size + 1 + 1, 5, none⟩ (.int .i64 0)) (w.heap.size + 1 + 1) #[.int .i64 0, .int .i64 0, .int .i64 0, .int .i64 0, .int .i64 0, .int .i64 0] 34 := ((((((K2.out.set 0 (.int .i64 0)).set 1 (.int .i64 0)).set 2 (.int .i64 0)).set 3 (.int .i64 0)).set 4 (.int .i64 0)).set 5 (.int .i64 0))
          have hBw : Below w.heap.size w ((((((W.setCell ⟨w.heap.size + 1 + 1, 0, none⟩ (.int .i64 0)).setCell ⟨w.heap.size + 1 + 1, 1, none⟩ (.int .i64 0)).setCell ⟨w.heap.size + 1 + 1, 2, none⟩ (.int .i64 0)).setCell ⟨w.heap.size + 1 + 1, 3, none⟩ (.int .i64 0)).setCell ⟨w.heap.size + 1 + 1, 4, none⟩ (.int .i64 0)).setCell ⟨w.heap.size + 1 + 1, 5, none⟩ (.int .i64 0)) := ((((((HB.out.setCell (p := ⟨w.heap.size + 1 + 1, 0, none⟩) (by simp; omega) _).setCell (p := ⟨w.heap.size + 1 + 1, 1, none⟩) (by simp; omega) _).setCell (p := ⟨w.heap.size + 1 + 1, 2, none⟩) (by simp; omega) _).setCell (p := ⟨w.heap.size + 1 + 1, 3, none⟩) (by simp; omega) _).setCell (p := ⟨w.heap.size + 1 + 1, 4, none⟩) (by simp; omega) _).setCell (p := ⟨w.heap.size + 1 + 1, 5, none⟩) (by simp; omega) _)
          generalize ((((((W.setCell ⟨w.heap.size + 1 + 1, 0, none⟩ (.int .i64 0)).setCell ⟨w.heap.size + 1 + 1, 1, none⟩ (.int .i64 0)).setCell ⟨w.heap.size + 1 + 1, 2, none⟩ (.int .i64 0)).setCell ⟨w.heap.size + 1 + 1, 3, none⟩ (.int .i64 0)).setCell ⟨w.heap.size + 1 + 1, 4, none⟩ (.int .i64 0)).setCell ⟨w.heap.size + 1 + 1, 5, none⟩ (.int .i64 0)) = W2 at hJ hBw ⊢
          obtain ⟨e0, e1, e2, e3, e4, e5⟩ := res6_ret hJ
          refine bodyPost_ret (v := .tuple #[letV zeroL, .int .i64 100]) (by simp [results, Try.f15, go_sem, zeroL, e0, e1, e2, e3, e4, e5]) rfl ⟨by rw [(hN.out (.inr (.inr HW.out))).1, (hN.out (.inr (.inr HW.out))).2], hBw⟩
    · have HL := Lib.hid (hY.out hp.out).1
      have HE := Lib.hid (hY.out hp.out).2
      have D1 : Hid (Blk W.drew (w.heap.size + 1) #[.int .i64 r0, .int .i64 r1, .int .i64 r2] 29) := Lib.hid K1.out
      have D2 : Hid (Blk W.drew (w.heap.size + 1 + 1) #[.int .i64 0, .int .i64 0, .int .i64 0, .int .i64 0, .int .i64 0, .int .i64 0] 34) := Lib.hid K2.out
      have HBD : Hid (Below w.heap.size w W.drew) := Lib.hid HB.out.drew
      obtain ⟨q0, q1, q2⟩ := blk3_facts K1.out
      clear i0 i1 i2
      go_wp2
      go_region_with (first
        | (go_at_call 42; refine (say_any _ _ _ _).mono ?_; rintro e w1 ⟨rfl, hs1, hb1⟩; have HS1 := Lib.hid hs1; have HB1 := Lib.hid hb1; obtain ⟨p0, p1, p2⟩ := blk3_facts (D1.out.below hb1 D1.out.lt); obtain ⟨s0, s1, s2, s3, s4, s5, t0, t1, t2, t3, t4, t5⟩ := blk6_facts (D2.out.below hb1 D2.out.lt); clear hs1 hb1)
        | (go_at_call 43; refine (mask_any _ _ _ _ _).mono ?_; rintro e w2 ⟨rfl, hm2, hb2⟩; have HS2 := Lib.hid (HS1.out.below hb2); have HM2 := Lib.hid hm2; have HB2 := Lib.hid (bel_trans HB1.out hb2); obtain ⟨u0, u1, u2, u3, u4, u5, v0, v1, v2, v3, v4, v5⟩ := blk6_facts (D2.out.below HB2.out D2.out.lt); have gg : w.heap.size + 1 + 1 < w2.heap.size := Nat.lt_of_lt_of_le D2.out.lt HB2.out.size; clear hm2 hb2)
        | (go_at_call 41; refine (seal_call key n0 n1 n2 r0 r1 r2 _ _ L _ HL.out HS2.out HM2.out).mono ?_; rintro e w3 ⟨rfl, hb3⟩; have HB3 := Lib.hid (bel_trans HB2.out hb3); obtain ⟨x0, x1, x2, x3, x4, x5, y0, y1, y2, y3, y4, y5⟩ := blk6_facts (D2.out.below HB3.out D2.out.lt); clear hb3))
      all_goals
        go_wp2
        have hJ : Blk ((((((w3.setCell ⟨w.heap.size + 1 + 1, 0, none⟩ (.int .i64 L.1.1)).setCell ⟨w.heap.size + 1 + 1, 1, none⟩ (.int .i64 L.1.2)).setCell ⟨w.heap.size + 1 + 1, 2, none⟩ (.int .i64 L.2.1.1)).setCell ⟨w.heap.size + 1 + 1, 3, none⟩ (.int .i64 L.2.1.2)).setCell ⟨w.heap.size + 1 + 1, 4, none⟩ (.int .i64 L.2.2.1)).setCell ⟨w.heap.size + 1 + 1, 5, none⟩ (.int .i64 L.2.2.2)) (w.heap.size + 1 + 1) #[.int .i64 L.1.1, .int .i64 L.1.2, .int .i64 L.2.1.1, .int .i64 L.2.1.2, .int .i64 L.2.2.1, .int .i64 L.2.2.2] 34 := (((((((D2.out.below HB3.out D2.out.lt).set 0 (.int .i64 L.1.1)).set 1 (.int .i64 L.1.2)).set 2 (.int .i64 L.2.1.1)).set 3 (.int .i64 L.2.1.2)).set 4 (.int .i64 L.2.2.1)).set 5 (.int .i64 L.2.2.2))
        have hBw : Below w.heap.size w ((((((w3.setCell ⟨w.heap.size + 1 + 1, 0, none⟩ (.int .i64 L.1.1)).setCell ⟨w.heap.size + 1 + 1, 1, none⟩ (.int .i64 L.1.2)).setCell ⟨w.heap.size + 1 + 1, 2, none⟩ (.int .i64 L.2.1.1)).setCell ⟨w.heap.size + 1 + 1, 3, none⟩ (.int .i64 L.2.1.2)).setCell ⟨w.heap.size + 1 + 1, 4, none⟩ (.int .i64 L.2.2.1)).setCell ⟨w.heap.size + 1 + 1, 5, none⟩ (.int .i64 L.2.2.2)) := (((((((HBD.out.trans (HB3.out.mono (by show w.heap.size ≤ W.heap.size; exact HB.out.size))).setCell (p := ⟨w.heap.size + 1 + 1, 0, none⟩) (by simp; omega) _).setCell (p := ⟨w.heap.size + 1 + 1, 1, none⟩) (by simp; omega) _).setCell (p := ⟨w.heap.size + 1 + 1, 2, none⟩) (by simp; omega) _).setCell (p := ⟨w.heap.size + 1 + 1, 3, none⟩) (by simp; omega) _).setCell (p := ⟨w.heap.size + 1 + 1, 4, none⟩) (by simp; omega) _).setCell (p := ⟨w.heap.size + 1 + 1, 5, none⟩) (by simp; omega) _)
        generalize ((((((w3.setCell ⟨w.heap.size + 1 + 1, 0, none⟩ (.int .i64 L.1.1)).setCell ⟨w.heap.size + 1 + 1, 1, none⟩ (.int .i64 L.1.2)).setCell ⟨w.heap.size + 1 + 1, 2, none⟩ (.int .i64 L.2.1.1)).setCell ⟨w.heap.size + 1 + 1, 3, none⟩ (.int .i64 L.2.1.2)).setCell ⟨w.heap.size + 1 + 1, 4, none⟩ (.int .i64 L.2.2.1)).setCell ⟨w.heap.size + 1 + 1, 5, none⟩ (.int .i64 L.2.2.2)) = W2 at hJ hBw ⊢
        obtain ⟨e0, e1, e2, e3, e4, e5⟩ := res6_ret hJ
        refine bodyPost_ret (v := .tuple #[letV L, .int .i64 0]) (by simp [results, Try.f15, go_sem, e0, e1, e2, e3, e4, e5]) rfl ⟨by rw [HE.out], hBw⟩

theorem seal_any (key n0 n1 n2 r0 r1 r2 : Int) (w : World) :
    Calls Try.prog 15 #[.int .i64 key, .agg #[.int .i64 n0, .int .i64 n1, .int .i64 n2], .agg #[.int .i64 r0, .int .i64 r1, .int .i64 r2]] w
      fun e w' => e = .returned (.tuple #[letV (sealR key n0 n1 n2 r0 r1 r2), .int .i64 (sealE key n0 n1 n2)]) ∧ Below w.heap.size w w' := by
  cases hv : elB key with
  | false =>
    have e1 : sealR key n0 n1 n2 r0 r1 r2 = zeroL := by unfold sealR; rw [hv]; rfl
    have e2 : sealE key n0 n1 n2 = 90 := by unfold sealE; rw [hv]; rfl
    rw [e1, e2]; exact seal_no key n0 n1 n2 r0 r1 r2 w hv
  | true =>
    refine seal_yes key n0 n1 n2 r0 r1 r2 w hv _ _ ?_ ?_
    · rintro ⟨h0, h1, h2⟩
      unfold sealR sealE; rw [hv, h0, h1, h2]
      exact ⟨if_pos rfl, rfl⟩
    · intro h
      have hb : (wordB n0 && wordB n1 && wordB n2) = false := by rcases h with h | h | h <;> simp [h]
      unfold sealR sealE; rw [hv, hb]; exact ⟨rfl, rfl⟩
end Go.Proofs.Ytbmeljkdemdloaa
