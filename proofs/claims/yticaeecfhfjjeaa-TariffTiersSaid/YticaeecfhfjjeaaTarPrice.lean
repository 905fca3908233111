/- tariff.Price, when all is right; the reference's Price and Shares. -/
import Derived.Test.YticaeecfhfjjeaaTarOwn
namespace Go.Proofs.Yticaeecfhfjjeaa
open Go.RowKit
set_option linter.unusedVariables false

theorem mem_rep {L : Nat} {x r z : Int} (h : z ∈ List.replicate L x ++ [r]) : z = x ∨ z = r := by
  rcases List.mem_append.1 h with h | h
  · exact .inl (List.eq_of_mem_replicate h)
  · exact .inr (by simpa using h)

set_option maxRecDepth 100000 in
set_option maxHeartbeats 2000000 in
theorem price_yes (pb : Option Addr) (nb cb : Nat) (pl : Option Addr) (nl cl : Nat) (pt : Option Addr) (nt ct : Nat) (base leg : List Int) (ts : List Tr) (k L : Nat) (m x y r : Int) (w : World) (hz : Hid (TarV w pb nb pl nl pt nt base leg ts))
    (hE : Hid (errE base leg ts k L m = 0)) (hk : k < nb) (hkl : k < nl) (hL0 : 1 ≤ L) (hL1 : L ≤ 8) (hx : Hid (leg.getD k 0 = x)) (hy : Hid (base.getD k 0 = y)) (hr : Hid (extraF m ts = r)) (x0 : 0 ≤ x) (x1 : x ≤ 1048576) (y0 : 0 ≤ y) (y1 : y ≤ 1048576) (r0 : 0 ≤ r) (r1 : r ≤ 1048576) :
    Calls Try.prog 10 #[tarV pb nb cb pl nl cl pt nt ct, .int .i64 k, .int .i64 L, .int .i64 m] w fun e w' => e = .returned (.tuple #[.int .i64 (L * x + (y + r)), .int .i64 0]) ∧ Below w.heap.size w w' := by
  obtain ⟨i0, hi, hz0, hz1, hz2⟩ := info_parts info3
  have h1 := Lib.hid (bel_alloc1 w (.cells #[.slice pb nb cb, .slice pl nl cl, .slice pt nt ct] 25))
  obtain ⟨q, hq⟩ : ∃ q, y + r = q := ⟨_, rfl⟩
  have HQ := Lib.hid hq
  have q0 : 0 ≤ q := by omega
  have q1 : q ≤ 2097152 := by omega
  clear hq
  go_enter Try.func10, Try.ntmps10
  go_wp2_with fail
  refine (shares_yes pb nb cb pl nl cl pt nt ct base leg ts k L m x y r _ (Lib.hid (hz.out.below h1.out)) hE hk hkl hL0 hL1 hx hy hr y0 y1 r0 r1).mono ?_; intro e w1 hsh
  obtain ⟨v, rfl, ho1, hb⟩ := sharesV hL1 hsh
  rw [HQ.out]
  have h2 := Lib.hid (belB2 (Below.refl _ w) hb); clear hb hsh
  have HO := Lib.hid ho1; clear ho1
  have HLL := Lib.hid (List.length_replicate (n := L) (a := x))
  go_wp2_with (at_builtin; refine wpList_append_own _ rfl (.tmp 21) (.tmp 23) 22 rfl (w.heap.size + 1) 3 i0 (.int .i64 0) 1 8 Try.underlying22 hi hz0 hz1 hz2 rfl (by decide) v (List.replicate L x).length (ints (List.replicate L x)) rfl ?c0 ⟨w1.heap.size, 0, none⟩ 1 1 [.int .i64 q] rfl rfl ?c1 ?c2 ?c3 ?c4 ?c5 ?_)
  case c0 => have h := HO.out; simp only [World.size_alloc] at h; exact h.alloc _
  case c1 => intro j u hj; match j, hj with | 0, hj => cases hj; simp [Addr.add]
  case c2 => intro u hu; simp at hu; subst hu; rfl
  case c3 => have := HLL.out; unfold maxLen; omega
  case c4 => have := HLL.out; omega
  case c5 => have := h2.out.size; simp; omega
  intro v2 w2 ho hg _
  have ho' : Own w2 (w.heap.size + 1) v2 (List.replicate L x ++ [q]) := by
    unfold Own; simpa [ints] using ho
  obtain ⟨p, cap, rfl, hV⟩ := ho'.intsV (by intro z hz; rcases mem_rep hz with rfl | rfl <;> (unfold i64B; omega))
  have HV := Lib.hid hV
  have h3 : Hid (Below w.heap.size w w2) := Lib.hid ((bel_al h2.out _).trans ⟨hg.os, hg.tape, hg.output, hg.size, fun i hi' => hg.block i (by have := h2.out.size; simp; omega) (by
    intro e
    have := (World.ownsRow.lt HO.out) i e.symm
    simp only [World.size_alloc] at this
    omega)⟩)
  have HN : Hid ((List.replicate L x ++ [q]).length = L + 1) := Lib.hid (by simp)
  rw [HN.out] at HV ⊢
  clear ho ho' hg hV
  go_wp2_with fail
  refine (sum_any p (L + 1) cap (List.replicate L x ++ [q]) _ HV (Lib.hid (by intro z hz; rcases mem_rep hz with rfl | rfl <;> omega)) (by omega)).mono ?_; rintro e w' ⟨rfl, rfl⟩
  have HS := Lib.hid (sum_rep L x q)
  rw [HS.out]
  go_wp2_with fail
  go_ret2
  exact ⟨ret_two (by rw [HQ.out]) rfl, h3.out⟩

set_option maxRecDepth 100000 in
set_option maxHeartbeats 2000000 in
theorem rprice_no (pb : Option Addr) (nb cb : Nat) (pl : Option Addr) (nl cl : Nat) (pt : Option Addr) (nt ct : Nat) (base leg : List Int) (ts : List Tr) (c l m E : Int) (w : World) (hz : Hid (TarV w pb nb pl nl pt nt base leg ts)) (hE : Hid (errE base leg ts c l m = E)) (h0 : E ≠ 0) :
    Calls Try.prog 11 #[tarV pb nb cb pl nl cl pt nt ct, .int .i64 c, .int .i64 l, .int .i64 m] w fun e w' => e = .returned (.tuple #[.int .i64 0, .int .i64 E]) ∧ Below w.heap.size w w' := by
  have hn : (E != 0) = true := by simp [h0]
  have h1 := Lib.hid (bel_alloc1 w (.cells #[.slice pb nb cb, .slice pl nl cl, .slice pt nt ct] 25))
  go_enter Try.func11, Try.ntmps11
  go_wp2_with fail
  refine (rwrong_any pb nb cb pl nl cl pt nt ct base leg ts c l m _ (Lib.hid (hz.out.below h1.out))).mono ?_; rintro e w1 ⟨rfl, hb⟩
  rw [hE.out]
  have h2 := Lib.hid (belB2 (Below.refl _ w) hb); clear hb
  go_wp2_with fail
  go_ret2
  exact ⟨rfl, h2.out⟩
theorem rshares_no (pb : Option Addr) (nb cb : Nat) (pl : Option Addr) (nl cl : Nat) (pt : Option Addr) (nt ct : Nat) (base leg : List Int) (ts : List Tr) (c l m E : Int) (w : World) (hz : Hid (TarV w pb nb pl nl pt nt base leg ts)) (hE : Hid (errE base leg ts c l m = E)) (h0 : E ≠ 0) :
    Calls Try.prog 15 #[tarV pb nb cb pl nl cl pt nt ct, .int .i64 c, .int .i64 l, .int .i64 m] w fun e w' => e = .returned (.tuple #[.slice none 0 0, .int .i64 0, .int .i64 E]) ∧ Below w.heap.size w w' := by
  have hn : (E != 0) = true := by simp [h0]
  have h1 := Lib.hid (bel_alloc1 w (.cells #[.slice pb nb cb, .slice pl nl cl, .slice pt nt ct] 25))
  go_enter Try.func15, Try.ntmps15
  go_wp2_with fail
  refine (rwrong_any pb nb cb pl nl cl pt nt ct base leg ts c l m _ (Lib.hid (hz.out.below h1.out))).mono ?_; rintro e w1 ⟨rfl, hb⟩
  rw [hE.out]
  have h2 := Lib.hid (belB2 (Below.refl _ w) hb); clear hb
  go_wp2_with fail
  go_ret3
  exact ⟨rfl, h2.out⟩

theorem mul_bd {L : Nat} {x : Int} (hL : L ≤ 8) (x0 : 0 ≤ x) (x1 : x ≤ 1048576) : 0 ≤ (L : Int) * x ∧ (L : Int) * x ≤ 8388608 := by
  refine ⟨Int.mul_nonneg (by omega) x0, ?_⟩
  have : (L : Int) * x ≤ 8 * 1048576 := Int.mul_le_mul (by omega) x1 x0 (by omega)
  omega

set_option maxRecDepth 100000 in
set_option maxHeartbeats 2000000 in
theorem rprice_yes (pb : Option Addr) (nb cb : Nat) (pl : Option Addr) (nl cl : Nat) (pt : Option Addr) (nt ct : Nat) (base leg : List Int) (ts : List Tr) (k L : Nat) (m x y r : Int) (w : World) (hz : Hid (TarV w pb nb pl nl pt nt base leg ts))
    (hE : Hid (errE base leg ts k L m = 0)) (hk : k < nb) (hkl : k < nl) (hL0 : 1 ≤ L) (hL1 : L ≤ 8) (hx : Hid (leg.getD k 0 = x)) (hy : Hid (base.getD k 0 = y)) (hr : Hid (extraF m ts = r)) (x0 : 0 ≤ x) (x1 : x ≤ 1048576) (y0 : 0 ≤ y) (y1 : y ≤ 1048576) (r0 : 0 ≤ r) (r1 : r ≤ 1048576) :
    Calls Try.prog 11 #[tarV pb nb cb pl nl cl pt nt ct, .int .i64 k, .int .i64 L, .int .i64 m] w fun e w' => e = .returned (.tuple #[.int .i64 (L * x + (y + r)), .int .i64 0]) ∧ Below w.heap.size w w' := by
  have m1 := hz.out.1.2.1; have m2 := hz.out.2.1.2.1
  obtain ⟨mb0, mb1⟩ := mul_bd hL1 x0 x1
  have v : Blks (w.alloc (.cells #[.slice pb nb cb, .slice pl nl cl, .slice pt nt ct] 25)) [(w.heap.size, #[.slice pb nb cb, .slice pl nl cl, .slice pt nt ct], 25)] := (Blks.nil w).box _ _
  have V := Lib.hid v; clear v
  have h1 := Lib.hid (bel_alloc1 w (.cells #[.slice pb nb cb, .slice pl nl cl, .slice pt nt ct] 25))
  go_enter Try.func11, Try.ntmps11
  go_wp2_with fail
  refine (rwrong_any pb nb cb pl nl cl pt nt ct base leg ts k L m _ (Lib.hid (hz.out.below h1.out))).mono ?_; rintro e W ⟨rfl, hb⟩
  rw [hE.out]
  have h2 := Lib.hid (belB2 (Below.refl _ w) hb)
  have V1 := Lib.hid (V.out.below hb); clear hb
  go_wp2_with fail
  obtain ⟨b1, o1, hp1, hb1, q1⟩ := (hz.out.1.below h2.out).at hk
  obtain ⟨b2, o2, hp2, hb2, q2⟩ := (hz.out.2.1.below h2.out).at hkl
  rw [hy.out] at q1; rw [hx.out] at q2
  have HZT : Hid (∀ w', Below W.heap.size W w' → Hid (TiersV w' pt nt ts)) := Lib.hid fun w' h => Lib.hid ((hz.out.2.2.below h2.out).below h)
  subst hp1 hp2
  obtain ⟨f0, f1, f2⟩ := blk3_facts V1.out.1
  have lw := V1.out.1.lt
  dsimp only at lw
  have HALL : Hid (∀ w' : World, Below W.heap.size W w' → (Below W.heap.size W w' ∧ w'.cell? ⟨w.heap.size, 0, none⟩ = some (.slice (some ⟨b1, o1, none⟩) nb cb) ∧ w'.cell? ⟨w.heap.size, 1, none⟩ = some (.slice (some ⟨b2, o2, none⟩) nl cl) ∧ w'.cell? ⟨w.heap.size, 2, none⟩ = some (.slice pt nt ct) ∧ w'.cell? ⟨b1, o1 + k, none⟩ = some (.int .i64 y) ∧ w'.cell? ⟨b2, o2 + k, none⟩ = some (.int .i64 x))) :=
    Lib.hid fun w' h => ⟨h, (h.cell (p := ⟨w.heap.size, 0, none⟩) lw).trans f0, (h.cell (p := ⟨w.heap.size, 1, none⟩) lw).trans f1, (h.cell (p := ⟨w.heap.size, 2, none⟩) lw).trans f2, (h.cell (p := ⟨b1, o1 + k, none⟩) hb1).trans q1, (h.cell (p := ⟨b2, o2 + k, none⟩) hb2).trans q2⟩
  have HRF := Lib.hid (Below.refl W.heap.size W)
  have e1 : IntKind.i64.wrap ((L : Int) * x) = (L : Int) * x := IntWalk.i64_in _ (by omega)
  have e2 : IntKind.i64.wrap (y + (L : Int) * x) = y + (L : Int) * x := IntWalk.i64_in _ (by omega)
  have e3 : IntKind.i64.wrap (y + (L : Int) * x + r) = y + (L : Int) * x + r := IntWalk.i64_in _ (by omega)
  clear f0 f1 f2 q1 q2
  go_region_held3 (fun w' => (Below W.heap.size W w' ∧ w'.cell? ⟨w.heap.size, 0, none⟩ = some (.slice (some ⟨b1, o1, none⟩) nb cb) ∧ w'.cell? ⟨w.heap.size, 1, none⟩ = some (.slice (some ⟨b2, o2, none⟩) nl cl) ∧ w'.cell? ⟨w.heap.size, 2, none⟩ = some (.slice pt nt ct) ∧ w'.cell? ⟨b1, o1 + k, none⟩ = some (.int .i64 y) ∧ w'.cell? ⟨b2, o2 + k, none⟩ = some (.int .i64 x)))
    (first | (exact HALL.out _ HRF.out.drew) | assumption | (exact HALL.out _ (bel_al (And.left (by assumption)) _)) | (exact HALL.out _ (bel_trans (And.left (by assumption)) (by assumption))))
    (first
      | (go_at_call 19; refine (rextra_any _ _ _ _ _ _ _ _ _ m ts _ (HZT.out _ (And.left (by assumption)))).mono ?_; rintro e u2 ⟨rfl, hbe⟩; rw [hr.out]))
  clear e1 e2 e3
  go_wp2_with fail
  go_ret2
  exact ⟨ret_two (by omega) rfl, h2.out.trans (Below.mono (And.left (b := _ ∧ _) (by assumption)) h2.out.size)⟩
end Go.Proofs.Yticaeecfhfjjeaa
