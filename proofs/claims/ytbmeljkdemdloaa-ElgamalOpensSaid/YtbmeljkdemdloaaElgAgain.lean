/- Package elgamal: Again and Strip, for all letters, keys and numbers. -/
import Derived.Test.YtbmeljkdemdloaaElgSeal
namespace Go.Proofs.Ytbmeljkdemdloaa
open Go.RowKit Go.Shelf
set_option linter.unusedVariables false

theorem again_call (key r0 r1 r2 a0 b0 a1 b1 a2 b2 : Int) (bm : Nat) (L : Let) (w : World) (hL : L = mapL (gMask key r0 r1 r2) ((a0, b0), (a1, b1), (a2, b2))) (hm : MaskAt w bm key r0 r1 r2) :
    Calls Try.prog 41 #[sealedV a0 b0 a1 b1 a2 b2, .slice (some ⟨w.heap.size, 0, none⟩) 1 1] (w.alloc (.cells #[.func (.func 57) #[] #[.pointer (some ⟨bm + 1, 0, none⟩), .pointer (some ⟨bm, 0, none⟩)]] 65))
      fun e w' => e = .returned (letV L) ∧ Below (w.alloc (.cells #[.func (.func 57) #[] #[.pointer (some ⟨bm + 1, 0, none⟩), .pointer (some ⟨bm, 0, none⟩)]] 65)).heap.size (w.alloc (.cells #[.func (.func 57) #[] #[.pointer (some ⟨bm + 1, 0, none⟩), .pointer (some ⟨bm, 0, none⟩)]] 65)) w' := by
  subst hL
  exact changed_any a0 b0 a1 b1 a2 b2 _ 1 1 _ _ _ _ (by omega) (by simp) (mask_chs hm)

theorem strip_call (sec a0 b0 a1 b1 a2 b2 : Int) (b : Nat) (L : Let) (w : World) (hL : L = mapL (gStrip sec) ((a0, b0), (a1, b1), (a2, b2))) (hb : b < w.heap.size) (hc : w.cell? ⟨b, 0, none⟩ = some (.int .i64 sec)) (s0 : 1 ≤ sec) (s1 : sec < 1073741789) :
    Calls Try.prog 41 #[sealedV a0 b0 a1 b1 a2 b2, .slice (some ⟨w.heap.size, 0, none⟩) 1 1] (w.alloc (.cells #[.func (.func 47) #[] #[.pointer (some ⟨b, 0, none⟩)]] 65))
      fun e w' => e = .returned (letV L) ∧ Below w.heap.size w w' := by
  subst hL
  refine (changed_any a0 b0 a1 b1 a2 b2 _ 1 1 _ _ _ _ (by omega) (by simp) (strip_chs hb hc s0 s1)).mono fun e w' h => ⟨h.1, ?_⟩
  exact (bel_alloc1 _ _).trans (h.2.mono (by simp))

set_option maxRecDepth 100000 in
set_option maxHeartbeats 4000000 in
theorem again_go (key a0 b0 a1 b1 a2 b2 r0 r1 r2 : Int) (w : World) (L : Let) (E : Int)
    (h1 : Hid (elB key = false → L = zeroL ∧ E = 90)) (h2 : Hid (elB key = true → chkE a0 b0 a1 b1 a2 b2 = 100 → L = zeroL ∧ E = 100))
    (h3 : Hid (elB key = true → chkE a0 b0 a1 b1 a2 b2 = 0 → L = mapL (gMask key r0 r1 r2) ((a0, b0), (a1, b1), (a2, b2)) ∧ E = 0)) :
    Calls Try.prog 17 #[.int .i64 key, sealedV a0 b0 a1 b1 a2 b2, .agg #[.int .i64 r0, .int .i64 r1, .int .i64 r2]] w
      fun e w' => e = .returned (.tuple #[letV L, .int .i64 E]) ∧ Below w.heap.size w w' := by
  cases hv : elB key with
  | false =>
    have HV := Lib.hid hv
    obtain ⟨rfl, rfl⟩ := h1.out hv
    clear hv
    go_enter Try.func17, Try.ntmps17
    go_wp2_with fail
    refine (val_c key false _ HV.out).mono ?_; rintro e w' ⟨rfl, rfl⟩
    go_wp2_with fail
    refine bodyPost_ret (v := .tuple #[letV zeroL, .int .i64 90]) (by simp [results, Try.f17, go_sem, zeroL]) rfl ⟨rfl, ?_⟩
    exact ((bel_alloc1 _ _).alloc (by simp) _).alloc (by simp; omega) _
  | true =>
    have HV := Lib.hid hv
    clear hv
    go_enter Try.func17, Try.ntmps17
    go_wp2_with fail
    refine (val_c key true _ HV.out).mono ?_; rintro e w' ⟨rfl, rfl⟩
    obtain ⟨W0, hW⟩ : ∃ W, ((w.alloc (.cells #[.int .i64 a0, .int .i64 b0, .int .i64 a1, .int .i64 b1, .int .i64 a2, .int .i64 b2] 34)).alloc (.cells #[.int .i64 r0, .int .i64 r1, .int .i64 r2] 29)).alloc (.cells #[.int .i64 0, .int .i64 0, .int .i64 0, .int .i64 0, .int .i64 0, .int .i64 0] 34) = W := ⟨_, rfl⟩
    have hB : Below w.heap.size w W0 := by rw [← hW]; exact ((bel_alloc1 _ _).alloc (by simp) _).alloc (by simp; omega) _
    have k0 : Blk W0 w.heap.size #[.int .i64 a0, .int .i64 b0, .int .i64 a1, .int .i64 b1, .int .i64 a2, .int .i64 b2] 34 := by
      rw [← hW]; exact ((Blk.new w _ _).alloc _).alloc _
    have k1 : Blk W0 (w.heap.size + 1) #[.int .i64 r0, .int .i64 r1, .int .i64 r2] 29 := by
      rw [← hW]; have h := Blk.new (w.alloc (.cells #[.int .i64 a0, .int .i64 b0, .int .i64 a1, .int .i64 b1, .int .i64 a2, .int .i64 b2] 34)) #[.int .i64 r0, .int .i64 r1, .int .i64 r2] 29
      rw [World.size_alloc] at h; exact h.alloc _
    have k2 : Blk W0 (w.heap.size + 1 + 1) #[.int .i64 0, .int .i64 0, .int .i64 0, .int .i64 0, .int .i64 0, .int .i64 0] 34 := by
      rw [← hW]; have h := Blk.new ((w.alloc (.cells #[.int .i64 a0, .int .i64 b0, .int .i64 a1, .int .i64 b1, .int .i64 a2, .int .i64 b2] 34)).alloc (.cells #[.int .i64 r0, .int .i64 r1, .int .i64 r2] 29)) #[.int .i64 0, .int .i64 0, .int .i64 0, .int .i64 0, .int .i64 0, .int .i64 0] 34
      rw [World.size_alloc, World.size_alloc] at h; exact h
    rw [hW]
    clear hW
    obtain ⟨c0, c1, c2, c3, c4, c5, d0, d1, d2, d3, d4, d5⟩ := blk6_facts k0
    have J0 := Lib.hid k0; have J1 := Lib.hid k1; have J2 := Lib.hid k2; have JB := Lib.hid hB
    clear k0 k1 k2 hB d0 d1 d2 d3 d4 d5
    go_wp2_with fail
    refine (check_any a0 b0 a1 b1 a2 b2 _).mono ?_
    rintro e W ⟨rfl, hb⟩
    have K0 := Lib.hid (J0.out.below hb J0.out.lt); have K1 := Lib.hid (J1.out.below hb J1.out.lt); have K2 := Lib.hid (J2.out.below hb J2.out.lt); have KB := Lib.hid (bel_trans JB.out hb)
    clear c0 c1 c2 c3 c4 c5 hb
    obtain ⟨c0, c1, c2, c3, c4, c5, d0, d1, d2, d3, d4, d5⟩ := blk6_facts K2.out
    by_cases hc : chkE a0 b0 a1 b1 a2 b2 = 0
    · obtain ⟨HL', HE'⟩ := h3.out HV.out hc
      have HL := Lib.hid HL'; have HE := Lib.hid HE'
      rw [hc]
      clear hc HL' HE' c0 c1 c2 c3 c4 c5 d0 d1 d2 d3 d4 d5
      go_wp2_with fail
      have HALL : Hid (∀ w' : World, Res6 W (w.heap.size + 1 + 1) 34 w' → (Res6 W (w.heap.size + 1 + 1) 34 w' ∧ w'.cell? ⟨w.heap.size, 0, none⟩ = some (.int .i64 a0) ∧ w'.cell? ⟨w.heap.size, 1, none⟩ = some (.int .i64 b0) ∧ w'.cell? ⟨w.heap.size, 2, none⟩ = some (.int .i64 a1) ∧ w'.cell? ⟨w.heap.size, 3, none⟩ = some (.int .i64 b1) ∧ w'.cell? ⟨w.heap.size, 4, none⟩ = some (.int .i64 a2) ∧ w'.cell? ⟨w.heap.size, 5, none⟩ = some (.int .i64 b2) ∧ w'.cell? ⟨w.heap.size + 1, 0, none⟩ = some (.int .i64 r0) ∧ w'.cell? ⟨w.heap.size + 1, 1, none⟩ = some (.int .i64 r1) ∧ w'.cell? ⟨w.heap.size + 1, 2, none⟩ = some (.int .i64 r2) ∧ w'.cell? ⟨w.heap.size + 1 + 1, 0, none⟩ = some (rc w' ⟨w.heap.size + 1 + 1, 0, none⟩) ∧ w'.cell? ⟨w.heap.size + 1 + 1, 1, none⟩ = some (rc w' ⟨w.heap.size + 1 + 1, 1, none⟩) ∧ w'.cell? ⟨w.heap.size + 1 + 1, 2, none⟩ = some (rc w' ⟨w.heap.size + 1 + 1, 2, none⟩) ∧ w'.cell? ⟨w.heap.size + 1 + 1, 3, none⟩ = some (rc w' ⟨w.heap.size + 1 + 1, 3, none⟩) ∧ w'.cell? ⟨w.heap.size + 1 + 1, 4, none⟩ = some (rc w' ⟨w.heap.size + 1 + 1, 4, none⟩) ∧ w'.cell? ⟨w.heap.size + 1 + 1, 5, none⟩ = some (rc w' ⟨w.heap.size + 1 + 1, 5, none⟩) ∧ w'.frozen? ⟨w.heap.size + 1 + 1, 0, none⟩ = false ∧ w'.frozen? ⟨w.heap.size + 1 + 1, 1, none⟩ = false ∧ w'.frozen? ⟨w.heap.size + 1 + 1, 2, none⟩ = false ∧ w'.frozen? ⟨w.heap.size + 1 + 1, 3, none⟩ = false ∧ w'.frozen? ⟨w.heap.size + 1 + 1, 4, none⟩ = false ∧ w'.frozen? ⟨w.heap.size + 1 + 1, 5, none⟩ = false)) := Lib.hid fun w' h => ⟨h, ((K0.out.below h.1 (by omega)).cell 0), ((K0.out.below h.1 (by omega)).cell 1), ((K0.out.below h.1 (by omega)).cell 2), ((K0.out.below h.1 (by omega)).cell 3), ((K0.out.below h.1 (by omega)).cell 4), ((K0.out.below h.1 (by omega)).cell 5), ((K1.out.below h.1 (by omega)).cell 0), ((K1.out.below h.1 (by omega)).cell 1), ((K1.out.below h.1 (by omega)).cell 2), h.cell (by omega), h.cell (by omega), h.cell (by omega), h.cell (by omega), h.cell (by omega), h.cell (by omega), h.frozen 0, h.frozen 1, h.frozen 2, h.frozen 3, h.frozen 4, h.frozen 5⟩
      have HR : Hid (Res6 W (w.heap.size + 1 + 1) 34 W) := Lib.hid ⟨Below.refl _ _, Nat.le_refl _, _, rfl, K2.out⟩
      go_region_held3 (fun w' => (Res6 W (w.heap.size + 1 + 1) 34 w' ∧ w'.cell? ⟨w.heap.size, 0, none⟩ = some (.int .i64 a0) ∧ w'.cell? ⟨w.heap.size, 1, none⟩ = some (.int .i64 b0) ∧ w'.cell? ⟨w.heap.size, 2, none⟩ = some (.int .i64 a1) ∧ w'.cell? ⟨w.heap.size, 3, none⟩ = some (.int .i64 b1) ∧ w'.cell? ⟨w.heap.size, 4, none⟩ = some (.int .i64 a2) ∧ w'.cell? ⟨w.heap.size, 5, none⟩ = some (.int .i64 b2) ∧ w'.cell? ⟨w.heap.size + 1, 0, none⟩ = some (.int .i64 r0) ∧ w'.cell? ⟨w.heap.size + 1, 1, none⟩ = some (.int .i64 r1) ∧ w'.cell? ⟨w.heap.size + 1, 2, none⟩ = some (.int .i64 r2) ∧ w'.cell? ⟨w.heap.size + 1 + 1, 0, none⟩ = some (rc w' ⟨w.heap.size + 1 + 1, 0, none⟩) ∧ w'.cell? ⟨w.heap.size + 1 + 1, 1, none⟩ = some (rc w' ⟨w.heap.size + 1 + 1, 1, none⟩) ∧ w'.cell? ⟨w.heap.size + 1 + 1, 2, none⟩ = some (rc w' ⟨w.heap.size + 1 + 1, 2, none⟩) ∧ w'.cell? ⟨w.heap.size + 1 + 1, 3, none⟩ = some (rc w' ⟨w.heap.size + 1 + 1, 3, none⟩) ∧ w'.cell? ⟨w.heap.size + 1 + 1, 4, none⟩ = some (rc w' ⟨w.heap.size + 1 + 1, 4, none⟩) ∧ w'.cell? ⟨w.heap.size + 1 + 1, 5, none⟩ = some (rc w' ⟨w.heap.size + 1 + 1, 5, none⟩) ∧ w'.frozen? ⟨w.heap.size + 1 + 1, 0, none⟩ = false ∧ w'.frozen? ⟨w.heap.size + 1 + 1, 1, none⟩ = false ∧ w'.frozen? ⟨w.heap.size + 1 + 1, 2, none⟩ = false ∧ w'.frozen? ⟨w.heap.size + 1 + 1, 3, none⟩ = false ∧ w'.frozen? ⟨w.heap.size + 1 + 1, 4, none⟩ = false ∧ w'.frozen? ⟨w.heap.size + 1 + 1, 5, none⟩ = false))
        ((refine HALL.out _ ?_; (first | (with_reducible exact HR.out.drew) | ((with_reducible refine Res6.set ?_ 5 _); exact (((((Res6.set (And.left (by assumption)) 0 _).set 1 _).set 2 _).set 3 _).set 4 _)) | ((with_reducible refine Res6.alloc ?_ _); exact And.left (by assumption)) | ((refine Res6.call ?_ (by with_reducible assumption)); exact And.left (by assumption)))))
        (first
          | (go_at_call 43; refine (mask_any _ _ _ _ _).mono ?_; rintro e w1 ⟨rfl, hm1, hb1⟩; have HM1 : Hid (MaskAt w1 W.heap.size key r0 r1 r2) := Lib.hid hm1; clear hm1)
          | (go_at_call 41; refine (again_call key r0 r1 r2 a0 b0 a1 b1 a2 b2 _ L _ HL.out HM1.out).mono ?_; rintro e w2 ⟨rfl, hb2⟩))
      go_wp2
      have hR : Res6 W (w.heap.size + 1 + 1) 34 ((((((w2.setCell ⟨w.heap.size + 1 + 1, 0, none⟩ (.int .i64 L.1.1)).setCell ⟨w.heap.size + 1 + 1, 1, none⟩ (.int .i64 L.1.2)).setCell ⟨w.heap.size + 1 + 1, 2, none⟩ (.int .i64 L.2.1.1)).setCell ⟨w.heap.size + 1 + 1, 3, none⟩ (.int .i64 L.2.1.2)).setCell ⟨w.heap.size + 1 + 1, 4, none⟩ (.int .i64 L.2.2.1)).setCell ⟨w.heap.size + 1 + 1, 5, none⟩ (.int .i64 L.2.2.2)) := And.left (by assumption)
      have hJ := Res6.final hR
      have hBw : Below w.heap.size w ((((((w2.setCell ⟨w.heap.size + 1 + 1, 0, none⟩ (.int .i64 L.1.1)).setCell ⟨w.heap.size + 1 + 1, 1, none⟩ (.int .i64 L.1.2)).setCell ⟨w.heap.size + 1 + 1, 2, none⟩ (.int .i64 L.2.1.1)).setCell ⟨w.heap.size + 1 + 1, 3, none⟩ (.int .i64 L.2.1.2)).setCell ⟨w.heap.size + 1 + 1, 4, none⟩ (.int .i64 L.2.2.1)).setCell ⟨w.heap.size + 1 + 1, 5, none⟩ (.int .i64 L.2.2.2)) := KB.out.trans (hR.1.mono (by omega))
      clear hR
      generalize ((((((w2.setCell ⟨w.heap.size + 1 + 1, 0, none⟩ (.int .i64 L.1.1)).setCell ⟨w.heap.size + 1 + 1, 1, none⟩ (.int .i64 L.1.2)).setCell ⟨w.heap.size + 1 + 1, 2, none⟩ (.int .i64 L.2.1.1)).setCell ⟨w.heap.size + 1 + 1, 3, none⟩ (.int .i64 L.2.1.2)).setCell ⟨w.heap.size + 1 + 1, 4, none⟩ (.int .i64 L.2.2.1)).setCell ⟨w.heap.size + 1 + 1, 5, none⟩ (.int .i64 L.2.2.2)) = W2 at hJ hBw ⊢
      obtain ⟨e0, e1, e2, e3, e4, e5⟩ := res6_ret hJ
      refine bodyPost_ret (v := .tuple #[letV L, .int .i64 0]) (by simp [results, Try.f17, go_sem, e0, e1, e2, e3, e4, e5]) rfl ⟨by rw [HE.out], hBw⟩
    · have hc' : chkE a0 b0 a1 b1 a2 b2 = 100 := by unfold chkE at hc ⊢; split at hc <;> simp_all
      obtain ⟨rfl, rfl⟩ := h2.out HV.out hc'
      rw [hc']
      clear hc hc'
      go_wp2_with fail
      have hJ : Blk ((((((W.setCell ⟨w.heap.size + 1 + 1, 0, none⟩ (.int .i64 0)).setCell ⟨w.heap.size + 1 + 1, 1, none⟩ (.int .i64 0)).setCell ⟨w.heap.size + 1 + 1, 2, none⟩ (.int .i64 0)).setCell ⟨w.heap.size + 1 + 1, 3, none⟩ (.int .i64 0)).setCell ⟨w.heap.size + 1 + 1, 4, none⟩ (.int .i64 0)).setCell ⟨w.heap.size + 1 + 1, 5, none⟩ (.int .i64 0)) (w.heap.size + 1 + 1) #[.int .i64 0, .int .i64 0, .int .i64 0, .int .i64 0, .int .i64 0, .int .i64 0] 34 := ((((((K2.out.set 0 (.int .i64 0)).set 1 (.int .i64 0)).set 2 (.int .i64 0)).set 3 (.int .i64 0)).set 4 (.int .i64 0)).set 5 (.int .i64 0))
      have hBw : Below w.heap.size w ((((((W.setCell ⟨w.heap.size + 1 + 1, 0, none⟩ (.int .i64 0)).setCell ⟨w.heap.size + 1 + 1, 1, none⟩ (.int .i64 0)).setCell ⟨w.heap.size + 1 + 1, 2, none⟩ (.int .i64 0)).setCell ⟨w.heap.size + 1 + 1, 3, none⟩ (.int .i64 0)).setCell ⟨w.heap.size + 1 + 1, 4, none⟩ (.int .i64 0)).setCell ⟨w.heap.size + 1 + 1, 5, none⟩ (.int .i64 0)) := ((((((KB.out.setCell (p := ⟨w.heap.size + 1 + 1, 0, none⟩) (by simp; omega) _).setCell (p := ⟨w.heap.size + 1 + 1, 1, none⟩) (by simp; omega) _).setCell (p := ⟨w.heap.size + 1 + 1, 2, none⟩) (by simp; omega) _).setCell (p := ⟨w.heap.size + 1 + 1, 3, none⟩) (by simp; omega) _).setCell (p := ⟨w.heap.size + 1 + 1, 4, none⟩) (by simp; omega) _).setCell (p := ⟨w.heap.size + 1 + 1, 5, none⟩) (by simp; omega) _)
      generalize ((((((W.setCell ⟨w.heap.size + 1 + 1, 0, none⟩ (.int .i64 0)).setCell ⟨w.heap.size + 1 + 1, 1, none⟩ (.int .i64 0)).setCell ⟨w.heap.size + 1 + 1, 2, none⟩ (.int .i64 0)).setCell ⟨w.heap.size + 1 + 1, 3, none⟩ (.int .i64 0)).setCell ⟨w.heap.size + 1 + 1, 4, none⟩ (.int .i64 0)).setCell ⟨w.heap.size + 1 + 1, 5, none⟩ (.int .i64 0)) = W2 at hJ hBw ⊢
      obtain ⟨e0, e1, e2, e3, e4, e5⟩ := res6_ret hJ
      refine bodyPost_ret (v := .tuple #[letV zeroL, .int .i64 100]) (by simp [results, Try.f17, go_sem, zeroL, e0, e1, e2, e3, e4, e5]) rfl ⟨rfl, hBw⟩

set_option maxRecDepth 100000 in
set_option maxHeartbeats 4000000 in
theorem strip_go (sec a0 b0 a1 b1 a2 b2 : Int) (w : World) (L : Let) (E : Int)
    (h1 : Hid (secB sec = false → L = zeroL ∧ E = 110)) (h2 : Hid (secB sec = true → chkE a0 b0 a1 b1 a2 b2 = 100 → L = zeroL ∧ E = 100))
    (h3 : Hid (secB sec = true → chkE a0 b0 a1 b1 a2 b2 = 0 → L = mapL (gStrip sec) ((a0, b0), (a1, b1), (a2, b2)) ∧ E = 0)) :
    Calls Try.prog 22 #[.int .i64 sec, sealedV a0 b0 a1 b1 a2 b2] w
      fun e w' => e = .returned (.tuple #[letV L, .int .i64 E]) ∧ Below w.heap.size w w' := by
  have hsc : secB sec = true → 1 ≤ sec ∧ sec < 1073741789 := fun h => of_decide_eq_true h
  have HSC := Lib.hid hsc; clear hsc
  go_enter Try.func22, Try.ntmps22
  go_wp2_with fail
  refine (sec_any sec _).mono ?_; rintro e w' ⟨rfl, rfl⟩
  obtain ⟨W0, hW⟩ : ∃ W, ((w.alloc (.cells #[.int .i64 sec] 3)).alloc (.cells #[.int .i64 a0, .int .i64 b0, .int .i64 a1, .int .i64 b1, .int .i64 a2, .int .i64 b2] 34)).alloc (.cells #[.int .i64 0, .int .i64 0, .int .i64 0, .int .i64 0, .int .i64 0, .int .i64 0] 34) = W := ⟨_, rfl⟩
  have hB : Below w.heap.size w W0 := by rw [← hW]; exact ((bel_alloc1 _ _).alloc (by simp) _).alloc (by simp; omega) _
  have k0 : Blk W0 w.heap.size #[.int .i64 sec] 3 := by
    rw [← hW]; exact ((Blk.new w _ _).alloc _).alloc _
  have k1 : Blk W0 (w.heap.size + 1) #[.int .i64 a0, .int .i64 b0, .int .i64 a1, .int .i64 b1, .int .i64 a2, .int .i64 b2] 34 := by
    rw [← hW]; have h := Blk.new (w.alloc (.cells #[.int .i64 sec] 3)) #[.int .i64 a0, .int .i64 b0, .int .i64 a1, .int .i64 b1, .int .i64 a2, .int .i64 b2] 34
    rw [World.size_alloc] at h; exact h.alloc _
  have k2 : Blk W0 (w.heap.size + 1 + 1) #[.int .i64 0, .int .i64 0, .int .i64 0, .int .i64 0, .int .i64 0, .int .i64 0] 34 := by
    rw [← hW]; have h := Blk.new ((w.alloc (.cells #[.int .i64 sec] 3)).alloc (.cells #[.int .i64 a0, .int .i64 b0, .int .i64 a1, .int .i64 b1, .int .i64 a2, .int .i64 b2] 34)) #[.int .i64 0, .int .i64 0, .int .i64 0, .int .i64 0, .int .i64 0, .int .i64 0] 34
    rw [World.size_alloc, World.size_alloc] at h; exact h
  rw [hW]
  clear hW
  have J0 := Lib.hid k0; have J1 := Lib.hid k1; have J2 := Lib.hid k2; have JB := Lib.hid hB
  clear k0 k1 k2 hB
  by_cases hv : secB sec = true
  · have HV := Lib.hid hv
    obtain ⟨s0, s1⟩ := HSC.out hv
    rw [hv]
    clear hv
    obtain ⟨c0, c1, c2, c3, c4, c5, _⟩ := blk6_facts J1.out
    go_wp2_with fail
    refine (check_any a0 b0 a1 b1 a2 b2 _).mono ?_
    rintro e W ⟨rfl, hb⟩
    have K0 := Lib.hid (J0.out.below hb J0.out.lt); have K1 := Lib.hid (J1.out.below hb J1.out.lt); have K2 := Lib.hid (J2.out.below hb J2.out.lt); have KB := Lib.hid (bel_trans JB.out hb)
    clear c0 c1 c2 c3 c4 c5 hb
    obtain ⟨c0, c1, c2, c3, c4, c5, _⟩ := blk6_facts K1.out
    by_cases hc : chkE a0 b0 a1 b1 a2 b2 = 0
    · obtain ⟨HL', HE'⟩ := h3.out HV.out hc
      have HL := Lib.hid HL'; have HE := Lib.hid HE'
      rw [hc]
      clear hc HL' HE'
      go_wp2_with fail
      refine (strip_call sec a0 b0 a1 b1 a2 b2 w.heap.size L _ HL.out K0.out.lt (K0.out.cell 0) s0 s1).mono ?_
      rintro e w2 ⟨rfl, hb2⟩
      have hb3 := hb2
      have M2 := Lib.hid (K2.out.below hb3 K2.out.lt); have MB := Lib.hid (bel_trans KB.out hb3)
      clear hb2 hb3 c0 c1 c2 c3 c4 c5
      obtain ⟨c0, c1, c2, c3, c4, c5, d0, d1, d2, d3, d4, d5⟩ := blk6_facts M2.out
      go_wp2_with fail
      have hJ : Blk ((((((w2.setCell ⟨w.heap.size + 1 + 1, 0, none⟩ (.int .i64 L.1.1)).setCell ⟨w.heap.size + 1 + 1, 1, none⟩ (.int .i64 L.1.2)).setCell ⟨w.heap.size + 1 + 1, 2, none⟩ (.int .i64 L.2.1.1)).setCell ⟨w.heap.size + 1 + 1, 3, none⟩ (.int .i64 L.2.1.2)).setCell ⟨w.heap.size + 1 + 1, 4, none⟩ (.int .i64 L.2.2.1)).setCell ⟨w.heap.size + 1 + 1, 5, none⟩ (.int .i64 L.2.2.2)) (w.heap.size + 1 + 1) #[.int .i64 L.1.1, .int .i64 L.1.2, .int .i64 L.2.1.1, .int .i64 L.2.1.2, .int .i64 L.2.2.1, .int .i64 L.2.2.2] 34 := ((((((M2.out.set 0 (.int .i64 L.1.1)).set 1 (.int .i64 L.1.2)).set 2 (.int .i64 L.2.1.1)).set 3 (.int .i64 L.2.1.2)).set 4 (.int .i64 L.2.2.1)).set 5 (.int .i64 L.2.2.2))
      have hBw : Below w.heap.size w ((((((w2.setCell ⟨w.heap.size + 1 + 1, 0, none⟩ (.int .i64 L.1.1)).setCell ⟨w.heap.size + 1 + 1, 1, none⟩ (.int .i64 L.1.2)).setCell ⟨w.heap.size + 1 + 1, 2, none⟩ (.int .i64 L.2.1.1)).setCell ⟨w.heap.size + 1 + 1, 3, none⟩ (.int .i64 L.2.1.2)).setCell ⟨w.heap.size + 1 + 1, 4, none⟩ (.int .i64 L.2.2.1)).setCell ⟨w.heap.size + 1 + 1, 5, none⟩ (.int .i64 L.2.2.2)) := ((((((MB.out.setCell (p := ⟨w.heap.size + 1 + 1, 0, none⟩) (by simp; omega) _).setCell (p := ⟨w.heap.size + 1 + 1, 1, none⟩) (by simp; omega) _).setCell (p := ⟨w.heap.size + 1 + 1, 2, none⟩) (by simp; omega) _).setCell (p := ⟨w.heap.size + 1 + 1, 3, none⟩) (by simp; omega) _).setCell (p := ⟨w.heap.size + 1 + 1, 4, none⟩) (by simp; omega) _).setCell (p := ⟨w.heap.size + 1 + 1, 5, none⟩) (by simp; omega) _)
      generalize ((((((w2.setCell ⟨w.heap.size + 1 + 1, 0, none⟩ (.int .i64 L.1.1)).setCell ⟨w.heap.size + 1 + 1, 1, none⟩ (.int .i64 L.1.2)).setCell ⟨w.heap.size + 1 + 1, 2, none⟩ (.int .i64 L.2.1.1)).setCell ⟨w.heap.size + 1 + 1, 3, none⟩ (.int .i64 L.2.1.2)).setCell ⟨w.heap.size + 1 + 1, 4, none⟩ (.int .i64 L.2.2.1)).setCell ⟨w.heap.size + 1 + 1, 5, none⟩ (.int .i64 L.2.2.2)) = W2 at hJ hBw ⊢
      obtain ⟨e0, e1, e2, e3, e4, e5⟩ := res6_ret hJ
      refine bodyPost_ret (v := .tuple #[letV L, .int .i64 0]) (by simp [results, Try.f22, go_sem, zeroL, e0, e1, e2, e3, e4, e5]) rfl ⟨by rw [HE.out], hBw⟩
    · have hc' : chkE a0 b0 a1 b1 a2 b2 = 100 := by unfold chkE at hc ⊢; split at hc <;> simp_all
      obtain ⟨rfl, rfl⟩ := h2.out HV.out hc'
      rw [hc']
      clear hc hc' c0 c1 c2 c3 c4 c5
      obtain ⟨c0, c1, c2, c3, c4, c5, d0, d1, d2, d3, d4, d5⟩ := blk6_facts K2.out
      go_wp2_with fail
      have hJ : Blk ((((((W.setCell ⟨w.heap.size + 1 + 1, 0, none⟩ (.int .i64 0)).setCell ⟨w.heap.size + 1 + 1, 1, none⟩ (.int .i64 0)).setCell ⟨w.heap.size + 1 + 1, 2, none⟩ (.int .i64 0)).setCell ⟨w.heap.size + 1 + 1, 3, none⟩ (.int .i64 0)).setCell ⟨w.heap.size + 1 + 1, 4, none⟩ (.int .i64 0)).setCell ⟨w.heap.size + 1 + 1, 5, none⟩ (.int .i64 0)) (w.heap.size + 1 + 1) #[.int .i64 0, .int .i64 0, .int .i64 0, .int .i64 0, .int .i64 0, .int .i64 0] 34 := ((((((K2.out.set 0 (.int .i64 0)).set 1 (.int .i64 0)).set 2 (.int .i64 0)).set 3 (.int .i64 0)).set 4 (.int .i64 0)).set 5 (.int .i64 0))
      have hBw : Below w.heap.size w ((((((W.setCell ⟨w.heap.size + 1 + 1, 0, none⟩ (.int .i64 0)).setCell ⟨w.heap.size + 1 + 1, 1, none⟩ (.int .i64 0)).setCell ⟨w.heap.size + 1 + 1, 2, none⟩ (.int .i64 0)).setCell ⟨w.heap.size + 1 + 1, 3, none⟩ (.int .i64 0)).setCell ⟨w.heap.size + 1 + 1, 4, none⟩ (.int .i64 0)).setCell ⟨w.heap.size + 1 + 1, 5, none⟩ (.int .i64 0)) := ((((((KB.out.setCell (p := ⟨w.heap.size + 1 + 1, 0, none⟩) (by simp; omega) _).setCell (p := ⟨w.heap.size + 1 + 1, 1, none⟩) (by simp; omega) _).setCell (p := ⟨w.heap.size + 1 + 1, 2, none⟩) (by simp; omega) _).setCell (p := ⟨w.heap.size + 1 + 1, 3, none⟩) (by simp; omega) _).setCell (p := ⟨w.heap.size + 1 + 1, 4, none⟩) (by simp; omega) _).setCell (p := ⟨w.heap.size + 1 + 1, 5, none⟩) (by simp; omega) _)
      generalize ((((((W.setCell ⟨w.heap.size + 1 + 1, 0, none⟩ (.int .i64 0)).setCell ⟨w.heap.size + 1 + 1, 1, none⟩ (.int .i64 0)).setCell ⟨w.heap.size + 1 + 1, 2, none⟩ (.int .i64 0)).setCell ⟨w.heap.size + 1 + 1, 3, none⟩ (.int .i64 0)).setCell ⟨w.heap.size + 1 + 1, 4, none⟩ (.int .i64 0)).setCell ⟨w.heap.size + 1 + 1, 5, none⟩ (.int .i64 0)) = W2 at hJ hBw ⊢
      obtain ⟨e0, e1, e2, e3, e4, e5⟩ := res6_ret hJ
      refine bodyPost_ret (v := .tuple #[letV zeroL, .int .i64 100]) (by simp [results, Try.f22, go_sem, zeroL, e0, e1, e2, e3, e4, e5]) rfl ⟨rfl, hBw⟩
  · have hv : secB sec = false := by simpa using hv
    obtain ⟨rfl, rfl⟩ := h1.out hv
    rw [hv]
    clear hv
    obtain ⟨c0, c1, c2, c3, c4, c5, d0, d1, d2, d3, d4, d5⟩ := blk6_facts J2.out
    go_wp2_with fail
    have hJ : Blk ((((((W0.setCell ⟨w.heap.size + 1 + 1, 0, none⟩ (.int .i64 0)).setCell ⟨w.heap.size + 1 + 1, 1, none⟩ (.int .i64 0)).setCell ⟨w.heap.size + 1 + 1, 2, none⟩ (.int .i64 0)).setCell ⟨w.heap.size + 1 + 1, 3, none⟩ (.int .i64 0)).setCell ⟨w.heap.size + 1 + 1, 4, none⟩ (.int .i64 0)).setCell ⟨w.heap.size + 1 + 1, 5, none⟩ (.int .i64 0)) (w.heap.size + 1 + 1) #[.int .i64 0, .int .i64 0, .int .i64 0, .int .i64 0, .int .i64 0, .int .i64 0] 34 := ((((((J2.out.set 0 (.int .i64 0)).set 1 (.int .i64 0)).set 2 (.int .i64 0)).set 3 (.int .i64 0)).set 4 (.int .i64 0)).set 5 (.int .i64 0))
    have hBw : Below w.heap.size w ((((((W0.setCell ⟨w.heap.size + 1 + 1, 0, none⟩ (.int .i64 0)).setCell ⟨w.heap.size + 1 + 1, 1, none⟩ (.int .i64 0)).setCell ⟨w.heap.size + 1 + 1, 2, none⟩ (.int .i64 0)).setCell ⟨w.heap.size + 1 + 1, 3, none⟩ (.int .i64 0)).setCell ⟨w.heap.size + 1 + 1, 4, none⟩ (.int .i64 0)).setCell ⟨w.heap.size + 1 + 1, 5, none⟩ (.int .i64 0)) := ((((((JB.out.setCell (p := ⟨w.heap.size + 1 + 1, 0, none⟩) (by simp; omega) _).setCell (p := ⟨w.heap.size + 1 + 1, 1, none⟩) (by simp; omega) _).setCell (p := ⟨w.heap.size + 1 + 1, 2, none⟩) (by simp; omega) _).setCell (p := ⟨w.heap.size + 1 + 1, 3, none⟩) (by simp; omega) _).setCell (p := ⟨w.heap.size + 1 + 1, 4, none⟩) (by simp; omega) _).setCell (p := ⟨w.heap.size + 1 + 1, 5, none⟩) (by simp; omega) _)
    generalize ((((((W0.setCell ⟨w.heap.size + 1 + 1, 0, none⟩ (.int .i64 0)).setCell ⟨w.heap.size + 1 + 1, 1, none⟩ (.int .i64 0)).setCell ⟨w.heap.size + 1 + 1, 2, none⟩ (.int .i64 0)).setCell ⟨w.heap.size + 1 + 1, 3, none⟩ (.int .i64 0)).setCell ⟨w.heap.size + 1 + 1, 4, none⟩ (.int .i64 0)).setCell ⟨w.heap.size + 1 + 1, 5, none⟩ (.int .i64 0)) = W2 at hJ hBw ⊢
    obtain ⟨e0, e1, e2, e3, e4, e5⟩ := res6_ret hJ
    refine bodyPost_ret (v := .tuple #[letV zeroL, .int .i64 110]) (by simp [results, Try.f22, go_sem, zeroL, e0, e1, e2, e3, e4, e5]) rfl ⟨rfl, hBw⟩

def againE (key : Int) (s : Let) : Int := if elB key then chkE s.1.1 s.1.2 s.2.1.1 s.2.1.2 s.2.2.1 s.2.2.2 else 90
def againR (key r0 r1 r2 : Int) (s : Let) : Let := if elB key then (if chkE s.1.1 s.1.2 s.2.1.1 s.2.1.2 s.2.2.1 s.2.2.2 = 0 then mapL (gMask key r0 r1 r2) s else zeroL) else zeroL
def stripE (sec : Int) (s : Let) : Int := if secB sec then chkE s.1.1 s.1.2 s.2.1.1 s.2.1.2 s.2.2.1 s.2.2.2 else 110
def stripR (sec : Int) (s : Let) : Let := if secB sec then (if chkE s.1.1 s.1.2 s.2.1.1 s.2.1.2 s.2.2.1 s.2.2.2 = 0 then mapL (gStrip sec) s else zeroL) else zeroL

theorem again_any (key r0 r1 r2 : Int) (s : Let) (w : World) :
    Calls Try.prog 17 #[.int .i64 key, letV s, .agg #[.int .i64 r0, .int .i64 r1, .int .i64 r2]] w
      fun e w' => e = .returned (.tuple #[letV (againR key r0 r1 r2 s), .int .i64 (againE key s)]) ∧ Below w.heap.size w w' := by
  refine again_go key _ _ _ _ _ _ r0 r1 r2 w _ _ ?_ ?_ ?_
  · intro h; unfold againR againE; rw [h]; exact ⟨rfl, rfl⟩
  · intro h k; unfold againR againE; rw [h, k]; exact ⟨by rw [if_pos rfl, if_neg (by decide)], rfl⟩
  · intro h k; unfold againR againE; rw [h, k]; exact ⟨by rw [if_pos rfl, if_pos rfl], rfl⟩

theorem strip_any (sec : Int) (s : Let) (w : World) :
    Calls Try.prog 22 #[.int .i64 sec, letV s] w
      fun e w' => e = .returned (.tuple #[letV (stripR sec s), .int .i64 (stripE sec s)]) ∧ Below w.heap.size w w' := by
  refine strip_go sec _ _ _ _ _ _ w _ _ ?_ ?_ ?_
  · intro h; unfold stripR stripE; rw [h]; exact ⟨rfl, rfl⟩
  · intro h k; unfold stripR stripE; rw [h, k]; exact ⟨by rw [if_pos rfl, if_neg (by decide)], rfl⟩
  · intro h k; unfold stripR stripE; rw [h, k]; exact ⟨by rw [if_pos rfl, if_pos rfl], rfl⟩
end Go.Proofs.Ytbmeljkdemdloaa
