/- tariff.Shares. -/
import Derived.Test.YticaeecfhfjjeaaTarErr
import Derived.Test.YticaeecfhfjjeaaTarSum
import Derived.Test.YticaeecfhfjjeaaTarExt2
import Derived.Test.YticaeecfhfjjeaaTarRep
import Derived.Deep.RegionHeld3
namespace Go.Proofs.Yticaeecfhfjjeaa
open Go.RowKit
set_option linter.unusedVariables false

theorem chk_parts {base leg : List Int} {ts : List Tr} (h : chkB base leg ts = true) : (1 ≤ base.length ∧ base.length ≤ 8 ∧ leg.length = base.length ∧ ts.length ≤ 16) ∧ base.all priceB = true ∧ leg.all priceB = true ∧ tiersB ts = true := by
  unfold chkB at h
  simp only [Bool.and_eq_true] at h
  exact ⟨lens_t h.1, h.2.1, h.2.2.1, h.2.2.2⟩
theorem all_at {zs : List Int} (h : zs.all priceB = true) {k : Nat} (hk : k < zs.length) : 0 ≤ zs.getD k 0 ∧ zs.getD k 0 ≤ 1048576 := price_t (List.all_eq_true.1 h _ (getD_mem hk))
theorem tier_at {ts : List Tr} (h : tiersB ts = true) {t : Tr} (ht : t ∈ ts) : 0 ≤ t.2 ∧ t.2 ≤ 1048576 := by
  obtain ⟨k, hk, rfl⟩ := List.mem_iff_getElem.1 ht
  have := List.all_eq_true.1 h k (by simp [hk])
  unfold okT at this
  simp only [Bool.and_eq_true] at this
  have h2 := price_t this.2
  rwa [List.getD_eq_getElem?_getD, List.getElem?_eq_getElem hk] at h2
theorem extra_bd {ts : List Tr} (h : tiersB ts = true) (crowd : Int) : 0 ≤ extraF crowd ts ∧ extraF crowd ts ≤ 1048576 := by
  unfold extraF
  have : ∀ (l : List Tr) (a : Int), (∀ t ∈ l, t ∈ ts) → 0 ≤ a ∧ a ≤ 1048576 → 0 ≤ l.foldl (fun n t => if t.1 ≤ crowd then t.2 else n) a ∧ l.foldl (fun n t => if t.1 ≤ crowd then t.2 else n) a ≤ 1048576 := by
    intro l
    induction l with
    | nil => intro a _ ha; exact ha
    | cons t l ih =>
      intro a hl ha
      simp only [List.foldl]
      refine ih _ (fun u hu => hl u (by simp [hu])) ?_
      split
      · exact tier_at h (hl t (by simp))
      · exact ha
  exact this ts 0 (fun _ h => h) ⟨by omega, by omega⟩

theorem ints2_new (u : World) (t : TypeId) (a b : Int) (ha : i64B a) (hb : i64B b) : IntsV (u.alloc (.cells #[.int .i64 a, .int .i64 b] t)) (some ⟨u.heap.size, 0, none⟩) 2 [a, b] := by
  refine ⟨rfl, by omega, by intro z hz; simp at hz; rcases hz with rfl | rfl <;> assumption, .inr ⟨_, _, rfl, by simp, ?_⟩⟩
  intro j hj
  match j, hj with
  | 0, _ => simp
  | 1, _ => simp

/-- what Shares returns when all is right: a new list, and the rest -/
def SharesOk (w : World) (L : Nat) (x r : Int) (e : Ending) (w' : World) : Prop :=
  ∃ g, e = .returned (.tuple #[.slice (some ⟨g, 0, none⟩) L L, .int .i64 r, .int .i64 0]) ∧ w.heap.size ≤ g ∧ w'.heap[g]? = some (.cells (List.replicate L (Value.int .i64 x)).toArray 3 (0, 0)) ∧ Below w.heap.size w w'

set_option maxHeartbeats 2000000 in
theorem shares_no (pb : Option Addr) (nb cb : Nat) (pl : Option Addr) (nl cl : Nat) (pt : Option Addr) (nt ct : Nat) (base leg : List Int) (ts : List Tr) (c l m E : Int) (w : World) (hz : Hid (TarV w pb nb pl nl pt nt base leg ts)) (hE : Hid (errE base leg ts c l m = E)) (h0 : E ≠ 0) :
    Calls Try.prog 14 #[tarV pb nb cb pl nl cl pt nt ct, .int .i64 c, .int .i64 l, .int .i64 m] w fun e w' => e = .returned (.tuple #[.slice none 0 0, .int .i64 0, .int .i64 E]) ∧ Below w.heap.size w w' := by
  have hn : (E != 0) = true := by simp [h0]
  have h1 := Lib.hid (bel_alloc1 w (.cells #[.slice pb nb cb, .slice pl nl cl, .slice pt nt ct] 25))
  go_enter Try.func14, Try.ntmps14
  go_wp2_with fail
  refine (kcheck_any pb nb cb pl nl cl pt nt ct base leg ts c l m _ (Lib.hid (hz.out.below h1.out))).mono ?_; rintro e w1 ⟨rfl, hb⟩
  rw [hE.out]
  have h2 := Lib.hid (belB2 (Below.refl _ w) hb); clear hb
  go_wp2_with fail
  go_ret3
  exact ⟨rfl, h2.out⟩

set_option maxRecDepth 100000 in
set_option maxHeartbeats 2000000 in
theorem shares_yes (pb : Option Addr) (nb cb : Nat) (pl : Option Addr) (nl cl : Nat) (pt : Option Addr) (nt ct : Nat) (base leg : List Int) (ts : List Tr) (k L : Nat) (m x y r : Int) (w : World) (hz : Hid (TarV w pb nb pl nl pt nt base leg ts))
    (hE : Hid (errE base leg ts k L m = 0)) (hk : k < nb) (hkl : k < nl) (hL0 : 1 ≤ L) (hL1 : L ≤ 8) (hx : Hid (leg.getD k 0 = x)) (hy : Hid (base.getD k 0 = y)) (hr : Hid (extraF m ts = r)) (y0 : 0 ≤ y) (y1 : y ≤ 1048576) (r0 : 0 ≤ r) (r1 : r ≤ 1048576) :
    Calls Try.prog 14 #[tarV pb nb cb pl nl cl pt nt ct, .int .i64 k, .int .i64 L, .int .i64 m] w (SharesOk w L x (y + r)) := by
  have m1 := hz.out.1.2.1; have m2 := hz.out.2.1.2.1
  have v : Blks (w.alloc (.cells #[.slice pb nb cb, .slice pl nl cl, .slice pt nt ct] 25)) [(w.heap.size, #[.slice pb nb cb, .slice pl nl cl, .slice pt nt ct], 25)] := (Blks.nil w).box _ _
  have V := Lib.hid v; clear v
  have h1 := Lib.hid (bel_alloc1 w (.cells #[.slice pb nb cb, .slice pl nl cl, .slice pt nt ct] 25))
  go_enter Try.func14, Try.ntmps14
  go_wp2_with fail
  refine (kcheck_any pb nb cb pl nl cl pt nt ct base leg ts k L m _ (Lib.hid (hz.out.below h1.out))).mono ?_; rintro e W ⟨rfl, hb⟩
  rw [hE.out]
  have h2 := Lib.hid (belB2 (Below.refl _ w) hb)
  have V1 := Lib.hid (V.out.below hb); clear hb
  go_wp2_with fail
  obtain ⟨b1, o1, hp1, hb1, q1⟩ := (hz.out.1.below h2.out).at hk
  obtain ⟨b2, o2, hp2, hb2, q2⟩ := (hz.out.2.1.below h2.out).at hkl
  rw [hy.out] at q1; rw [hx.out] at q2
  have HZT : Hid (∀ w', Below W.heap.size W w' → Hid (TiersV w' pt nt ts)) := Lib.hid fun w' h => Lib.hid ((hz.out.2.2.below h2.out).below h)
  subst hp1 hp2
  obtain ⟨f0, f1, f2⟩ := blk3_facts V1.out.1
  have lw := V1.out.1.lt
  dsimp only at lw
  have HALL : Hid (∀ w' : World, Below W.heap.size W w' → (Below W.heap.size W w' ∧ w'.cell? ⟨w.heap.size, 0, none⟩ = some (.slice (some ⟨b1, o1, none⟩) nb cb) ∧ w'.cell? ⟨w.heap.size, 1, none⟩ = some (.slice (some ⟨b2, o2, none⟩) nl cl) ∧ w'.cell? ⟨w.heap.size, 2, none⟩ = some (.slice pt nt ct) ∧ w'.cell? ⟨b1, o1 + k, none⟩ = some (.int .i64 y) ∧ w'.cell? ⟨b2, o2 + k, none⟩ = some (.int .i64 x))) :=
    Lib.hid fun w' h => ⟨h, (h.cell (p := ⟨w.heap.size, 0, none⟩) lw).trans f0, (h.cell (p := ⟨w.heap.size, 1, none⟩) lw).trans f1, (h.cell (p := ⟨w.heap.size, 2, none⟩) lw).trans f2, (h.cell (p := ⟨b1, o1 + k, none⟩) hb1).trans q1, (h.cell (p := ⟨b2, o2 + k, none⟩) hb2).trans q2⟩
  have HRF := Lib.hid (Below.refl W.heap.size W)
  have HY : Hid (i64B y) := Lib.hid ⟨by omega, by omega⟩
  have HR : Hid (i64B r) := Lib.hid ⟨by omega, by omega⟩
  have HSM : Hid (∀ z ∈ [y, r], 0 ≤ z ∧ z ≤ 16777216) := Lib.hid (by intro z hz; simp at hz; rcases hz with rfl | rfl <;> omega)
  clear f0 f1 f2 q1 q2
  go_region_held3 (fun w' => (Below W.heap.size W w' ∧ w'.cell? ⟨w.heap.size, 0, none⟩ = some (.slice (some ⟨b1, o1, none⟩) nb cb) ∧ w'.cell? ⟨w.heap.size, 1, none⟩ = some (.slice (some ⟨b2, o2, none⟩) nl cl) ∧ w'.cell? ⟨w.heap.size, 2, none⟩ = some (.slice pt nt ct) ∧ w'.cell? ⟨b1, o1 + k, none⟩ = some (.int .i64 y) ∧ w'.cell? ⟨b2, o2 + k, none⟩ = some (.int .i64 x)))
    (first | (exact HALL.out _ HRF.out.drew) | assumption | (exact HALL.out _ (bel_al (And.left (by assumption)) _)) | (exact HALL.out _ (bel_trans (And.left (by assumption)) (by assumption))))
    (first
      | (go_at_call 26; refine (repeat_any x _ L _ ?_ ?_ hL0 hL1).mono ?_; (simp); (simp); rintro e u1 ⟨rfl, hbr, hgr⟩)
      | (go_at_call 27; refine (extra_any _ _ _ _ _ _ _ _ _ m ts _ (HZT.out _ (And.left (by assumption)))).mono ?_; rintro e u2 ⟨rfl, hbe⟩; rw [hr.out])
      | (go_at_call 17; refine (sum_any _ 2 _ [y, r] _ (Lib.hid (ints2_new _ _ y r HY.out HR.out)) HSM (by omega)).mono ?_; rintro e u3 ⟨rfl, rfl⟩))
  go_wp2_with fail
  go_ret3
  have hsz : (W.alloc (.cells #[.int .i64 x] 3)).drew.heap.size = W.heap.size + 1 := by simp
  rw [hsz] at hgr hbr
  have hlt : W.heap.size + 1 < u1.heap.size := (Array.getElem?_eq_some_iff.1 hgr).1
  refine ⟨W.heap.size + 1, rfl, by have := h2.out.size; omega, ?_, ?_⟩
  · exact (Below.heap_alloc u2 _ _ (Nat.lt_of_lt_of_le hlt hbe.size)).trans ((hbe.block _ hlt).trans hgr)
  · have hx1 : Below w.heap.size w (W.alloc (.cells #[.int .i64 x] 3)).drew := (bel_al h2.out _).drew
    exact bel_al ((hx1.trans (hbr.mono (by have := h2.out.size; omega))).trans (hbe.mono (by have := h2.out.size; omega))) _
end Go.Proofs.Yticaeecfhfjjeaa
