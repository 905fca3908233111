/- The reference's Shares, when all is right. -/
import Derived.Test.YticaeecfhfjjeaaTarPrice
namespace Go.Proofs.Yticaeecfhfjjeaa
open Go.RowKit
set_option linter.unusedVariables false

set_option maxRecDepth 100000 in
set_option maxHeartbeats 2000000 in
theorem rshares_yes (pb : Option Addr) (nb cb : Nat) (pl : Option Addr) (nl cl : Nat) (pt : Option Addr) (nt ct : Nat) (base leg : List Int) (ts : List Tr) (k L : Nat) (m x y r : Int) (w : World) (hz : Hid (TarV w pb nb pl nl pt nt base leg ts))
    (hE : Hid (errE base leg ts k L m = 0)) (hk : k < nb) (hkl : k < nl) (hL0 : 1 ≤ L) (hL1 : L ≤ 8) (hx : Hid (leg.getD k 0 = x)) (hy : Hid (base.getD k 0 = y)) (hr : Hid (extraF m ts = r)) (y0 : 0 ≤ y) (y1 : y ≤ 1048576) (r0 : 0 ≤ r) (r1 : r ≤ 1048576) :
    Calls Try.prog 15 #[tarV pb nb cb pl nl cl pt nt ct, .int .i64 k, .int .i64 L, .int .i64 m] w (SharesV w L x (y + r)) := by
  obtain ⟨i0, hi, hz0, hz1, hz2⟩ := info_parts info3
  have m1 := hz.out.1.2.1; have m2 := hz.out.2.1.2.1
  have v : Blks (w.alloc (.cells #[.slice pb nb cb, .slice pl nl cl, .slice pt nt ct] 25)) [(w.heap.size, #[.slice pb nb cb, .slice pl nl cl, .slice pt nt ct], 25)] := (Blks.nil w).box _ _
  have V := Lib.hid v; clear v
  have h1 := Lib.hid (bel_alloc1 w (.cells #[.slice pb nb cb, .slice pl nl cl, .slice pt nt ct] 25))
  go_enter Try.func15, Try.ntmps15
  go_wp2_with fail
  refine (rwrong_any pb nb cb pl nl cl pt nt ct base leg ts k L m _ (Lib.hid (hz.out.below h1.out))).mono ?_; rintro e W ⟨rfl, hb⟩
  rw [hE.out]
  have h2 := Lib.hid (belB2 (Below.refl _ w) hb)
  have V1 := Lib.hid (V.out.below hb); clear hb
  go_wp2_with fail
  obtain ⟨b1, o1, hp1, hb1, q1⟩ := (hz.out.1.below h2.out).at hk
  obtain ⟨b2, o2, hp2, hb2, q2⟩ := (hz.out.2.1.below h2.out).at hkl
  rw [hy.out] at q1; rw [hx.out] at q2
  have HZT : Hid (∀ w', Below W.heap.size W w' → Hid (TiersV w' pt nt ts)) := Lib.hid fun w' h => Lib.hid ((hz.out.2.2.below h2.out).below h)
  subst hp1 hp2
  obtain ⟨f0, f1, f2⟩ := blk3_facts V1.out.1
  have lw := V1.out.1.lt
  dsimp only at lw
  have HALL : Hid (∀ w' : World, Below W.heap.size W w' → (Below W.heap.size W w' ∧ w'.cell? ⟨w.heap.size, 0, none⟩ = some (.slice (some ⟨b1, o1, none⟩) nb cb) ∧ w'.cell? ⟨w.heap.size, 1, none⟩ = some (.slice (some ⟨b2, o2, none⟩) nl cl) ∧ w'.cell? ⟨w.heap.size, 2, none⟩ = some (.slice pt nt ct) ∧ w'.cell? ⟨b1, o1 + k, none⟩ = some (.int .i64 y) ∧ w'.cell? ⟨b2, o2 + k, none⟩ = some (.int .i64 x))) :=
    Lib.hid fun w' h => ⟨h, (h.cell (p := ⟨w.heap.size, 0, none⟩) lw).trans f0, (h.cell (p := ⟨w.heap.size, 1, none⟩) lw).trans f1, (h.cell (p := ⟨w.heap.size, 2, none⟩) lw).trans f2, (h.cell (p := ⟨b1, o1 + k, none⟩) hb1).trans q1, (h.cell (p := ⟨b2, o2 + k, none⟩) hb2).trans q2⟩
  clear f0 f1 f2 q1 q2
  have HO : Hid (Own (W.alloc (.cells #[] 3)) W.heap.size (.slice (some ⟨W.heap.size, 0, none⟩) 0 0) (List.replicate 0 x)) := Lib.hid (World.ownsRow_made W #[] 0 (Nat.le_refl _) (by unfold maxLen; omega) rfl)
  have HW0 := Lib.hid (bel_alloc1 W (.cells #[] 3))
  go_loopw [12, 13] (fun p i wr => ∃ (j : Nat) (v : Value), j ≤ L ∧ i = .int .i64 j ∧ v = p ∧ Hid (Own wr W.heap.size v (List.replicate j x)) ∧ Hid (Below W.heap.size W wr)) (fun _ i _ => L - (intOf i).toNat)
  case atStart => exact ⟨0, _, by omega, rfl, rfl, HO, HW0⟩
  case round =>
    obtain ⟨j, v, hj, rfl, rfl, HOv, HB⟩ := hrel
    obtain ⟨_, f0, f1, f2, q1, q2⟩ := HALL.out _ HB.out
    have lwr : w.heap.size < wr.heap.size := Nat.lt_of_lt_of_le lw HB.out.size
    have lb2 : b2 < wr.heap.size := Nat.lt_of_lt_of_le hb2 HB.out.size
    have HLL := Lib.hid (List.length_replicate (n := j) (a := x))
    by_cases hlt : j < L
    · go_wp2_with (at_builtin; refine wpList_append_own _ rfl (.tmp 28) (.tmp 34) 22 rfl W.heap.size 3 i0 (.int .i64 0) 1 8 Try.underlying22 hi hz0 hz1 hz2 rfl (by decide) v (List.replicate j x).length (ints (List.replicate j x)) rfl (HOv.out.alloc _) ⟨wr.heap.size, 0, none⟩ 1 1 [.int .i64 x] rfl rfl ?c1 ?c2 ?c3 ?c4 ?c5 ?_)
      case c1 => intro j u hj; match j, hj with | 0, hj => cases hj; simp [Addr.add]
      case c2 => intro u hu; simp at hu; subst hu; rfl
      case c3 => have := HLL.out; unfold maxLen; omega
      case c4 => have := HLL.out; omega
      case c5 => have := HB.out.size; simp; omega
      intro v2 w2 ho hg _
      have HO2 : Hid (Own w2 W.heap.size v2 (List.replicate (j + 1) x)) := Lib.hid (by
        rw [List.replicate_succ']; unfold Own; simpa [ints] using ho)
      have HB2 : Hid (Below W.heap.size W w2) := Lib.hid ((HB.out.alloc HB.out.size _).trans ⟨hg.os, hg.tape, hg.output, hg.size, fun i hi' => hg.block i (by have := HB.out.size; simp; omega) (by
        intro e
        have := (World.ownsRow.lt HOv.out) i e.symm
        omega)⟩)
      clear ho hg f0 f1 f2 q1 q2 lwr lb2
      go_wp2_with fail
      go_roundw
      case rel => exact ⟨j + 1, v2, by omega, by go_num, rfl, HO2, HB2⟩
      case measure => simp [intOf]; omega
    · obtain rfl : j = L := by omega
      have HRF := HB
      have HALL2 : Hid (∀ w' : World, Below wr.heap.size wr w' → (Below wr.heap.size wr w' ∧ w'.cell? ⟨w.heap.size, 0, none⟩ = some (.slice (some ⟨b1, o1, none⟩) nb cb) ∧ w'.cell? ⟨w.heap.size, 1, none⟩ = some (.slice (some ⟨b2, o2, none⟩) nl cl) ∧ w'.cell? ⟨w.heap.size, 2, none⟩ = some (.slice pt nt ct) ∧ w'.cell? ⟨b1, o1 + k, none⟩ = some (.int .i64 y))) :=
        Lib.hid fun w' h => by
          obtain ⟨_, a0, a1, a2, a3, _⟩ := HALL.out w' (HB.out.trans (h.mono HB.out.size))
          exact ⟨h, a0, a1, a2, a3⟩
      have HR2 := Lib.hid (Below.refl wr.heap.size wr)
      have HZ2 : Hid (∀ w', Below wr.heap.size wr w' → Hid (TiersV w' pt nt ts)) := Lib.hid fun w' h => HZT.out _ (HB.out.trans (h.mono HB.out.size))
      have e3 : IntKind.i64.wrap (y + r) = y + r := IntWalk.i64_in _ (by omega)
      clear f0 f1 f2 q1 q2 lwr lb2
      go_wp2_with fail
      go_region_held3 (fun w' => (Below wr.heap.size wr w' ∧ w'.cell? ⟨w.heap.size, 0, none⟩ = some (.slice (some ⟨b1, o1, none⟩) nb cb) ∧ w'.cell? ⟨w.heap.size, 1, none⟩ = some (.slice (some ⟨b2, o2, none⟩) nl cl) ∧ w'.cell? ⟨w.heap.size, 2, none⟩ = some (.slice pt nt ct) ∧ w'.cell? ⟨b1, o1 + k, none⟩ = some (.int .i64 y)))
        (first | (exact HALL2.out _ HR2.out.drew) | assumption | (exact HALL2.out _ (bel_al (And.left (by assumption)) _)) | (exact HALL2.out _ (bel_trans (And.left (by assumption)) (by assumption))))
        (first
          | (go_at_call 19; refine (rextra_any _ _ _ _ _ _ _ _ _ m ts _ (HZ2.out _ (And.left (by assumption)))).mono ?_; rintro e u2 ⟨rfl, hbe⟩; rw [hr.out]))
      clear e3
      go_wp2_with fail
      go_ret3
      have hfin : Below wr.heap.size wr u2 := And.left (b := _ ∧ _) (by assumption)
      have hown : Own u2 W.heap.size v (List.replicate j x) := HOv.out.below hfin
      have hw := h2.out.size
      refine ⟨v, rfl, ⟨hown.1, ?_⟩, h2.out.trans ((HB.out.trans (hfin.mono HB.out.size)).mono hw)⟩
      rcases hown.2 with h | ⟨g, cap, cur, a, b, c⟩
      · exact .inl h
      · exact .inr ⟨g, cap, cur, a, by omega, c⟩
end Go.Proofs.Yticaeecfhfjjeaa
