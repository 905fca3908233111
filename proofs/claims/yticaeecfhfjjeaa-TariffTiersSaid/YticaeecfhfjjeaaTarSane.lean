/- The chapter's examples of a tariff. -/
import Derived.Test.YticaeecfhfjjeaaTarAny
namespace Go.Proofs.Yticaeecfhfjjeaa
open Go.RowKit
set_option linter.unusedVariables false

theorem ints_blk {W : World} {b : Nat} {t : TypeId} {zs : List Int} (h : Blk W b (ints zs).toArray t) (hn : zs.length ≤ 9223372036854775807) (hb : ∀ z ∈ zs, i64B z) : IntsV W (some ⟨b, 0, none⟩) zs.length zs := by
  refine ⟨rfl, hn, hb, .inr ⟨b, 0, rfl, h.lt, fun j hj => ?_⟩⟩
  rw [h.cell, Nat.zero_add]
  simp [List.getElem?_eq_getElem hj]
theorem exT {W : World} {b : Nat} {t : TypeId} (h : Blk W b #[.int .i64 2, .int .i64 5, .int .i64 8, .int .i64 7] t) : TiersV W (some ⟨b, 0, none⟩) 2 [(2, 5), (8, 7)] := by
  refine ⟨rfl, by omega, by intro z hz; simp at hz; rcases hz with rfl | rfl <;> exact ⟨⟨by omega, by omega⟩, ⟨by omega, by omega⟩⟩, .inr ⟨b, 0, rfl, h.lt, fun j hj => ?_⟩⟩
  match j, hj with
  | 0, _ => exact ⟨h.cell 0, h.cell 1⟩
  | 1, _ => exact ⟨h.cell 2, h.cell 3⟩
theorem exF {W w : World} (h : Blks W [(w.heap.size + 1 + 1 + 1, #[.slice (some ⟨w.heap.size, 0, none⟩) 2 2, .slice (some ⟨w.heap.size + 1, 0, none⟩) 2 2, .slice (some ⟨w.heap.size + 1 + 1, 0, none⟩) 2 2], 25), (w.heap.size + 1 + 1, #[.int .i64 2, .int .i64 5, .int .i64 8, .int .i64 7], 38), (w.heap.size + 1, #[.int .i64 3, .int .i64 1048576], 3), (w.heap.size, #[.int .i64 10, .int .i64 0], 3)]) : TarV W (some ⟨w.heap.size, 0, none⟩) 2 (some ⟨w.heap.size + 1, 0, none⟩) 2 (some ⟨w.heap.size + 1 + 1, 0, none⟩) 2 [10, 0] [3, 1048576] [(2, 5), (8, 7)] :=
  ⟨ints_blk (zs := [10, 0]) h.2.2.2.1 (by simp) (by intro z hz; simp at hz; rcases hz with rfl | rfl <;> exact ⟨by omega, by omega⟩), ints_blk (zs := [3, 1048576]) h.2.2.1 (by simp) (by intro z hz; simp at hz; rcases hz with rfl | rfl <;> exact ⟨by omega, by omega⟩), exT h.2.1⟩
theorem Blks.set {W : World} {x : Nat × Array Value × TypeId} {l : List (Nat × Array Value × TypeId)} (h : Blks W (x :: l)) (hne : ∀ y ∈ l, y.1 ≠ x.1) (o : Nat) (v : Value) : Blks (W.setCell ⟨x.1, o, none⟩ v) ((x.1, x.2.1.setIfInBounds o v, x.2.2) :: l) := by
  refine ⟨h.1.set o v, ?_⟩
  have : ∀ l : List (Nat × Array Value × TypeId), (∀ y ∈ l, y.1 ≠ x.1) → Blks W l → Blks (W.setCell ⟨x.1, o, none⟩ v) l := by
    intro l
    induction l with
    | nil => intro _ _; trivial
    | cons y l ih => intro hn hb; exact ⟨hb.1.other o v (hn y (by simp)), ih (fun z hz => hn z (by simp [hz])) hb.2⟩
  exact this l hne h.2
theorem own_set {w : World} {B b o : Nat} {v x : Value} {zs : List Int} (h : Own w B v zs) (hb : b < B) : Own (w.setCell ⟨b, o, none⟩ x) B v zs := by
  refine World.ownsRow.kept (row := some b) h ⟨rfl, rfl, rfl, by simp, fun i _ hn => Below.heap_setCell w ⟨b, o, none⟩ x i (fun e => hn (by rw [e]))⟩ ?_
  cases hv : v.ownBlock with
  | none => exact .inl rfl
  | some g => exact .inr (by intro e; cases e; have := (World.ownsRow.lt h) _ hv; omega)
theorem exT0 {W : World} {b : Nat} {t : TypeId} (h : Blk W b #[.int .i64 0, .int .i64 0] t) : TiersV W (some ⟨b, 0, none⟩) 1 [(0, 0)] := by
  refine ⟨rfl, by omega, by intro z hz; simp at hz; subst hz; exact ⟨⟨by omega, by omega⟩, ⟨by omega, by omega⟩⟩, .inr ⟨b, 0, rfl, h.lt, fun j hj => ?_⟩⟩
  match j, hj with
  | 0, _ => exact ⟨h.cell 0, h.cell 1⟩
theorem ints1_new (u : World) (t : TypeId) (a : Int) (ha : i64B a) : IntsV (u.alloc (.cells #[.int .i64 a] t)) (some ⟨u.heap.size, 0, none⟩) 1 [a] :=
  ints_blk (zs := [a]) (Blk.new u _ t) (by simp) (by intro z hz; simp at hz; subst hz; exact ha)
theorem check_c (pb : Option Addr) (nb cb : Nat) (pl : Option Addr) (nl cl : Nat) (pt : Option Addr) (nt ct : Nat) (base leg : List Int) (ts : List Tr) (E : Int) (w : World) (hz : Hid (TarV w pb nb pl nl pt nt base leg ts)) (h1 : chkE base leg ts = E) :
    Calls Try.prog 12 #[tarV pb nb cb pl nl cl pt nt ct] w fun e w' => e = .returned (.int .i64 E) ∧ Below w.heap.size w w' := by
  rw [← h1]; exact check_any pb nb cb pl nl cl pt nt ct base leg ts w hz
theorem price_c (pb : Option Addr) (nb cb : Nat) (pl : Option Addr) (nl cl : Nat) (pt : Option Addr) (nt ct : Nat) (base leg : List Int) (ts : List Tr) (c l m n E : Int) (w : World) (hz : Hid (TarV w pb nb pl nl pt nt base leg ts)) (h1 : priceZ base leg ts c l m = n) (h2 : errE base leg ts c l m = E) :
    Calls Try.prog 10 #[tarV pb nb cb pl nl cl pt nt ct, .int .i64 c, .int .i64 l, .int .i64 m] w fun e w' => e = .returned (.tuple #[.int .i64 n, .int .i64 E]) ∧ Below w.heap.size w w' := by
  rw [← h1, ← h2]; exact priceA_any pb nb cb pl nl cl pt nt ct base leg ts c l m w hz
theorem ex1_0 : priceZ [10, 0] [3, 1048576] [(2, 5), (8, 7)] (0) (4) (1) = 22 ∧ errE [10, 0] [3, 1048576] [(2, 5), (8, 7)] (0) (4) (1) = 0 := by decide +kernel
theorem ex1_1 : priceZ [10, 0] [3, 1048576] [(2, 5), (8, 7)] (0) (4) (2) = 27 ∧ errE [10, 0] [3, 1048576] [(2, 5), (8, 7)] (0) (4) (2) = 0 := by decide +kernel
theorem ex1_2 : priceZ [10, 0] [3, 1048576] [(2, 5), (8, 7)] (0) (4) (7) = 27 ∧ errE [10, 0] [3, 1048576] [(2, 5), (8, 7)] (0) (4) (7) = 0 := by decide +kernel
theorem ex1_3 : priceZ [10, 0] [3, 1048576] [(2, 5), (8, 7)] (0) (4) (8) = 29 ∧ errE [10, 0] [3, 1048576] [(2, 5), (8, 7)] (0) (4) (8) = 0 := by decide +kernel
theorem ex1_4 : priceZ [10, 0] [3, 1048576] [(2, 5), (8, 7)] (0) (1) (1) = 13 ∧ errE [10, 0] [3, 1048576] [(2, 5), (8, 7)] (0) (1) (1) = 0 := by decide +kernel
theorem ex1_5 : priceZ [10, 0] [3, 1048576] [(2, 5), (8, 7)] (1) (8) (64) = 8388615 ∧ errE [10, 0] [3, 1048576] [(2, 5), (8, 7)] (1) (8) (64) = 0 := by decide +kernel
theorem ex2_0 : priceZ [10, 0] [3, 1048576] [(2, 5), (8, 7)] (-1) (1) (1) = 0 ∧ errE [10, 0] [3, 1048576] [(2, 5), (8, 7)] (-1) (1) (1) = 1 := by decide +kernel
theorem ex2_1 : priceZ [10, 0] [3, 1048576] [(2, 5), (8, 7)] (2) (1) (1) = 0 ∧ errE [10, 0] [3, 1048576] [(2, 5), (8, 7)] (2) (1) (1) = 1 := by decide +kernel
theorem ex2_2 : priceZ [10, 0] [3, 1048576] [(2, 5), (8, 7)] (0) (0) (1) = 0 ∧ errE [10, 0] [3, 1048576] [(2, 5), (8, 7)] (0) (0) (1) = 1 := by decide +kernel
theorem ex2_3 : priceZ [10, 0] [3, 1048576] [(2, 5), (8, 7)] (0) (9) (1) = 0 ∧ errE [10, 0] [3, 1048576] [(2, 5), (8, 7)] (0) (9) (1) = 1 := by decide +kernel
theorem ex2_4 : priceZ [10, 0] [3, 1048576] [(2, 5), (8, 7)] (0) (1) (0) = 0 ∧ errE [10, 0] [3, 1048576] [(2, 5), (8, 7)] (0) (1) (0) = 1 := by decide +kernel
theorem ex2_5 : priceZ [10, 0] [3, 1048576] [(2, 5), (8, 7)] (0) (1) (65) = 0 ∧ errE [10, 0] [3, 1048576] [(2, 5), (8, 7)] (0) (1) (65) = 1 := by decide +kernel
theorem ex3 : partsZ [10, 0] [3, 1048576] [(2, 5), (8, 7)] 0 4 8 = [3, 3, 3, 3] ∧ restZ [10, 0] [3, 1048576] [(2, 5), (8, 7)] 0 4 8 = 17 ∧ errE [10, 0] [3, 1048576] [(2, 5), (8, 7)] 0 4 8 = 0 := by decide +kernel
theorem ex4 : chkE [10, 0] [3, 1048576] [(0, 0)] = 210 ∧ chkE [] [] [] = 210 ∧ chkE [1] [0] [] = 0 := by decide +kernel

set_option maxRecDepth 100000 in
set_option maxHeartbeats 8000000 in
theorem sane_any (w : World) : Calls Try.prog 8 #[] w fun e w' => e = .returned (.bool true) ∧ Below w.heap.size w w' := by
  go_enter Try.func8, Try.ntmps8
  go_wp2_with fail
  obtain ⟨V, hV⟩ : ∃ V, ((((w.alloc (.cells #[.int .i64 10, .int .i64 0] 3)).alloc (.cells #[.int .i64 3, .int .i64 1048576] 3)).alloc (.cells #[.int .i64 2, .int .i64 5, .int .i64 8, .int .i64 7] 38)).alloc (.cells #[.slice (some ⟨w.heap.size, 0, none⟩) 2 2, .slice (some ⟨w.heap.size + 1, 0, none⟩) 2 2, .slice (some ⟨w.heap.size + 1 + 1, 0, none⟩) 2 2] 25)).alloc (.cells #[.int .i64 0, .int .i64 4, .int .i64 1, .int .i64 22, .int .i64 0, .int .i64 4, .int .i64 2, .int .i64 27, .int .i64 0, .int .i64 4, .int .i64 7, .int .i64 27, .int .i64 0, .int .i64 4, .int .i64 8, .int .i64 29, .int .i64 0, .int .i64 1, .int .i64 1, .int .i64 13, .int .i64 1, .int .i64 8, .int .i64 64, .int .i64 8388615] 40) = V := ⟨_, rfl⟩
  have kv : Below w.heap.size w V := by rw [← hV]; exact bel_al (bel_al (bel_al (bel_al (bel_alloc1 _ _) _) _) _) _
  have v : Blks V [(w.heap.size + 1 + 1 + 1 + 1, #[.int .i64 0, .int .i64 4, .int .i64 1, .int .i64 22, .int .i64 0, .int .i64 4, .int .i64 2, .int .i64 27, .int .i64 0, .int .i64 4, .int .i64 7, .int .i64 27, .int .i64 0, .int .i64 4, .int .i64 8, .int .i64 29, .int .i64 0, .int .i64 1, .int .i64 1, .int .i64 13, .int .i64 1, .int .i64 8, .int .i64 64, .int .i64 8388615], 40), (w.heap.size + 1 + 1 + 1, #[.slice (some ⟨w.heap.size, 0, none⟩) 2 2, .slice (some ⟨w.heap.size + 1, 0, none⟩) 2 2, .slice (some ⟨w.heap.size + 1 + 1, 0, none⟩) 2 2], 25), (w.heap.size + 1 + 1, #[.int .i64 2, .int .i64 5, .int .i64 8, .int .i64 7], 38), (w.heap.size + 1, #[.int .i64 3, .int .i64 1048576], 3), (w.heap.size, #[.int .i64 10, .int .i64 0], 3)] := by
    rw [← hV]; have h := (((((Blks.nil w).box #[.int .i64 10, .int .i64 0] 3).box #[.int .i64 3, .int .i64 1048576] 3).box #[.int .i64 2, .int .i64 5, .int .i64 8, .int .i64 7] 38).box #[.slice (some ⟨w.heap.size, 0, none⟩) 2 2, .slice (some ⟨w.heap.size + 1, 0, none⟩) 2 2, .slice (some ⟨w.heap.size + 1 + 1, 0, none⟩) 2 2] 25).box #[.int .i64 0, .int .i64 4, .int .i64 1, .int .i64 22, .int .i64 0, .int .i64 4, .int .i64 2, .int .i64 27, .int .i64 0, .int .i64 4, .int .i64 7, .int .i64 27, .int .i64 0, .int .i64 4, .int .i64 8, .int .i64 29, .int .i64 0, .int .i64 1, .int .i64 1, .int .i64 13, .int .i64 1, .int .i64 8, .int .i64 64, .int .i64 8388615] 40
    simp only [World.size_alloc] at h; exact h
  rw [hV]
  have KV := Lib.hid kv; have K0 := Lib.hid v
  clear kv v hV
  go_loopw [27] (fun i wr => ∃ k : Int, 0 ≤ k ∧ k ≤ 6 ∧ i = .int .i64 k ∧ Hid (Below w.heap.size w wr) ∧ Hid (Blks wr [(w.heap.size + 1 + 1 + 1 + 1, #[.int .i64 0, .int .i64 4, .int .i64 1, .int .i64 22, .int .i64 0, .int .i64 4, .int .i64 2, .int .i64 27, .int .i64 0, .int .i64 4, .int .i64 7, .int .i64 27, .int .i64 0, .int .i64 4, .int .i64 8, .int .i64 29, .int .i64 0, .int .i64 1, .int .i64 1, .int .i64 13, .int .i64 1, .int .i64 8, .int .i64 64, .int .i64 8388615], 40), (w.heap.size + 1 + 1 + 1, #[.slice (some ⟨w.heap.size, 0, none⟩) 2 2, .slice (some ⟨w.heap.size + 1, 0, none⟩) 2 2, .slice (some ⟨w.heap.size + 1 + 1, 0, none⟩) 2 2], 25), (w.heap.size + 1 + 1, #[.int .i64 2, .int .i64 5, .int .i64 8, .int .i64 7], 38), (w.heap.size + 1, #[.int .i64 3, .int .i64 1048576], 3), (w.heap.size, #[.int .i64 10, .int .i64 0], 3)])) (fun i _ => 6 - (intOf i).toNat)
  case atStart => exact ⟨0, by omega, by omega, rfl, KV, K0⟩
  case round =>
    obtain ⟨k, hk0, hk, rfl, HB, K⟩ := hrel
    obtain rfl | rfl | rfl | rfl | rfl | rfl | rfl : k = 0 ∨ k = 1 ∨ k = 2 ∨ k = 3 ∨ k = 4 ∨ k = 5 ∨ k = 6 := by omega
    · have a0 := K.out.1.cell 0
      have a1 := K.out.1.cell 1
      have a2 := K.out.1.cell 2
      have a3 := K.out.1.cell 3
      simp at a0 a1 a2 a3
      obtain ⟨c0, c1, c2⟩ := blk3_facts K.out.2.1
      have l1 := K.out.1.lt; have l2 := K.out.2.1.lt
      dsimp only at l1 l2
      have HF := Lib.hid (exF K.out.2)
      go_wp2_with fail
      refine (price_c _ _ _ _ _ _ _ _ _ [10, 0] [3, 1048576] [(2, 5), (8, 7)] (0) (4) (1) (22) 0 _ (Lib.hid (HF.out.below (bel_alloc1 _ _))) ex1_0.1 ex1_0.2).mono ?_; rintro e w2 ⟨rfl, hb⟩
      have K2 := Lib.hid (K.out.new2 hb)
      have HB2 := Lib.hid (belB2 HB.out hb); clear hb a0 a1 a2 a3 c0 c1 c2 l1 l2
      have d3 := K2.out.1.cell 3
      simp at d3
      have l1 := K2.out.1.lt
      dsimp only at l1
      go_wp2_with fail
      go_roundw
      case rel => exact ⟨0 + 1, by omega, by omega, rfl, HB2, Lib.hid K2.out.2⟩
      case measure => simp [intOf]
    · have a0 := K.out.1.cell 4
      have a1 := K.out.1.cell 5
      have a2 := K.out.1.cell 6
      have a3 := K.out.1.cell 7
      simp at a0 a1 a2 a3
      obtain ⟨c0, c1, c2⟩ := blk3_facts K.out.2.1
      have l1 := K.out.1.lt; have l2 := K.out.2.1.lt
      dsimp only at l1 l2
      have HF := Lib.hid (exF K.out.2)
      go_wp2_with fail
      refine (price_c _ _ _ _ _ _ _ _ _ [10, 0] [3, 1048576] [(2, 5), (8, 7)] (0) (4) (2) (27) 0 _ (Lib.hid (HF.out.below (bel_alloc1 _ _))) ex1_1.1 ex1_1.2).mono ?_; rintro e w2 ⟨rfl, hb⟩
      have K2 := Lib.hid (K.out.new2 hb)
      have HB2 := Lib.hid (belB2 HB.out hb); clear hb a0 a1 a2 a3 c0 c1 c2 l1 l2
      have d3 := K2.out.1.cell 3
      simp at d3
      have l1 := K2.out.1.lt
      dsimp only at l1
      go_wp2_with fail
      go_roundw
      case rel => exact ⟨1 + 1, by omega, by omega, rfl, HB2, Lib.hid K2.out.2⟩
      case measure => simp [intOf]
    · have a0 := K.out.1.cell 8
      have a1 := K.out.1.cell 9
      have a2 := K.out.1.cell 10
      have a3 := K.out.1.cell 11
      simp at a0 a1 a2 a3
      obtain ⟨c0, c1, c2⟩ := blk3_facts K.out.2.1
      have l1 := K.out.1.lt; have l2 := K.out.2.1.lt
      dsimp only at l1 l2
      have HF := Lib.hid (exF K.out.2)
      go_wp2_with fail
      refine (price_c _ _ _ _ _ _ _ _ _ [10, 0] [3, 1048576] [(2, 5), (8, 7)] (0) (4) (7) (27) 0 _ (Lib.hid (HF.out.below (bel_alloc1 _ _))) ex1_2.1 ex1_2.2).mono ?_; rintro e w2 ⟨rfl, hb⟩
      have K2 := Lib.hid (K.out.new2 hb)
      have HB2 := Lib.hid (belB2 HB.out hb); clear hb a0 a1 a2 a3 c0 c1 c2 l1 l2
      have d3 := K2.out.1.cell 3
      simp at d3
      have l1 := K2.out.1.lt
      dsimp only at l1
      go_wp2_with fail
      go_roundw
      case rel => exact ⟨2 + 1, by omega, by omega, rfl, HB2, Lib.hid K2.out.2⟩
      case measure => simp [intOf]
    · have a0 := K.out.1.cell 12
      have a1 := K.out.1.cell 13
      have a2 := K.out.1.cell 14
      have a3 := K.out.1.cell 15
      simp at a0 a1 a2 a3
      obtain ⟨c0, c1, c2⟩ := blk3_facts K.out.2.1
      have l1 := K.out.1.lt; have l2 := K.out.2.1.lt
      dsimp only at l1 l2
      have HF := Lib.hid (exF K.out.2)
      go_wp2_with fail
      refine (price_c _ _ _ _ _ _ _ _ _ [10, 0] [3, 1048576] [(2, 5), (8, 7)] (0) (4) (8) (29) 0 _ (Lib.hid (HF.out.below (bel_alloc1 _ _))) ex1_3.1 ex1_3.2).mono ?_; rintro e w2 ⟨rfl, hb⟩
      have K2 := Lib.hid (K.out.new2 hb)
      have HB2 := Lib.hid (belB2 HB.out hb); clear hb a0 a1 a2 a3 c0 c1 c2 l1 l2
      have d3 := K2.out.1.cell 3
      simp at d3
      have l1 := K2.out.1.lt
      dsimp only at l1
      go_wp2_with fail
      go_roundw
      case rel => exact ⟨3 + 1, by omega, by omega, rfl, HB2, Lib.hid K2.out.2⟩
      case measure => simp [intOf]
    · have a0 := K.out.1.cell 16
      have a1 := K.out.1.cell 17
      have a2 := K.out.1.cell 18
      have a3 := K.out.1.cell 19
      simp at a0 a1 a2 a3
      obtain ⟨c0, c1, c2⟩ := blk3_facts K.out.2.1
      have l1 := K.out.1.lt; have l2 := K.out.2.1.lt
      dsimp only at l1 l2
      have HF := Lib.hid (exF K.out.2)
      go_wp2_with fail
      refine (price_c _ _ _ _ _ _ _ _ _ [10, 0] [3, 1048576] [(2, 5), (8, 7)] (0) (1) (1) (13) 0 _ (Lib.hid (HF.out.below (bel_alloc1 _ _))) ex1_4.1 ex1_4.2).mono ?_; rintro e w2 ⟨rfl, hb⟩
      have K2 := Lib.hid (K.out.new2 hb)
      have HB2 := Lib.hid (belB2 HB.out hb); clear hb a0 a1 a2 a3 c0 c1 c2 l1 l2
      have d3 := K2.out.1.cell 3
      simp at d3
      have l1 := K2.out.1.lt
      dsimp only at l1
      go_wp2_with fail
      go_roundw
      case rel => exact ⟨4 + 1, by omega, by omega, rfl, HB2, Lib.hid K2.out.2⟩
      case measure => simp [intOf]
    · have a0 := K.out.1.cell 20
      have a1 := K.out.1.cell 21
      have a2 := K.out.1.cell 22
      have a3 := K.out.1.cell 23
      simp at a0 a1 a2 a3
      obtain ⟨c0, c1, c2⟩ := blk3_facts K.out.2.1
      have l1 := K.out.1.lt; have l2 := K.out.2.1.lt
      dsimp only at l1 l2
      have HF := Lib.hid (exF K.out.2)
      go_wp2_with fail
      refine (price_c _ _ _ _ _ _ _ _ _ [10, 0] [3, 1048576] [(2, 5), (8, 7)] (1) (8) (64) (8388615) 0 _ (Lib.hid (HF.out.below (bel_alloc1 _ _))) ex1_5.1 ex1_5.2).mono ?_; rintro e w2 ⟨rfl, hb⟩
      have K2 := Lib.hid (K.out.new2 hb)
      have HB2 := Lib.hid (belB2 HB.out hb); clear hb a0 a1 a2 a3 c0 c1 c2 l1 l2
      have d3 := K2.out.1.cell 3
      simp at d3
      have l1 := K2.out.1.lt
      dsimp only at l1
      go_wp2_with fail
      go_roundw
      case rel => exact ⟨5 + 1, by omega, by omega, rfl, HB2, Lib.hid K2.out.2⟩
      case measure => simp [intOf]
    · obtain ⟨wo, rfl⟩ : ∃ wo : World, wo = wr := ⟨_, rfl⟩
      go_wp2_with fail
      have K1 := Lib.hid (Blks.box K.out.2 #[.int .i64 (-1), .int .i64 1, .int .i64 1, .int .i64 2, .int .i64 1, .int .i64 1, .int .i64 0, .int .i64 0, .int .i64 1, .int .i64 0, .int .i64 9, .int .i64 1, .int .i64 0, .int .i64 1, .int .i64 0, .int .i64 0, .int .i64 1, .int .i64 65] 42)
      have HB1 := Lib.hid (bel_al HB.out (.cells #[.int .i64 (-1), .int .i64 1, .int .i64 1, .int .i64 2, .int .i64 1, .int .i64 1, .int .i64 0, .int .i64 0, .int .i64 1, .int .i64 0, .int .i64 9, .int .i64 1, .int .i64 0, .int .i64 1, .int .i64 0, .int .i64 0, .int .i64 1, .int .i64 65] 42))
      clear K HB KV K0
      go_loopw [59] (fun i wr => ∃ k : Int, 0 ≤ k ∧ k ≤ 6 ∧ i = .int .i64 k ∧ Hid (Below w.heap.size w wr) ∧ Hid (Blks wr [(wo.heap.size, #[.int .i64 (-1), .int .i64 1, .int .i64 1, .int .i64 2, .int .i64 1, .int .i64 1, .int .i64 0, .int .i64 0, .int .i64 1, .int .i64 0, .int .i64 9, .int .i64 1, .int .i64 0, .int .i64 1, .int .i64 0, .int .i64 0, .int .i64 1, .int .i64 65], 42), (w.heap.size + 1 + 1 + 1, #[.slice (some ⟨w.heap.size, 0, none⟩) 2 2, .slice (some ⟨w.heap.size + 1, 0, none⟩) 2 2, .slice (some ⟨w.heap.size + 1 + 1, 0, none⟩) 2 2], 25), (w.heap.size + 1 + 1, #[.int .i64 2, .int .i64 5, .int .i64 8, .int .i64 7], 38), (w.heap.size + 1, #[.int .i64 3, .int .i64 1048576], 3), (w.heap.size, #[.int .i64 10, .int .i64 0], 3)])) (fun i _ => 6 - (intOf i).toNat)
      case atStart => exact ⟨0, by omega, by omega, rfl, HB1, K1⟩
      case round =>
        obtain ⟨k, hk0, hk, rfl, HB, K⟩ := hrel
        obtain rfl | rfl | rfl | rfl | rfl | rfl | rfl : k = 0 ∨ k = 1 ∨ k = 2 ∨ k = 3 ∨ k = 4 ∨ k = 5 ∨ k = 6 := by omega
        · have a0 := K.out.1.cell 0
          have a1 := K.out.1.cell 1
          have a2 := K.out.1.cell 2
          simp at a0 a1 a2
          obtain ⟨c0, c1, c2⟩ := blk3_facts K.out.2.1
          have l1 := K.out.1.lt; have l2 := K.out.2.1.lt
          dsimp only at l1 l2
          have HF := Lib.hid (exF K.out.2)
          go_wp2_with fail
          refine (price_c _ _ _ _ _ _ _ _ _ [10, 0] [3, 1048576] [(2, 5), (8, 7)] (-1) (1) (1) (0) 1 _ (Lib.hid (HF.out.below (bel_alloc1 _ _))) ex2_0.1 ex2_0.2).mono ?_; rintro e w2 ⟨rfl, hb⟩
          have K2 := Lib.hid (K.out.new2 hb)
          have HB2 := Lib.hid (belB2 HB.out hb); clear hb a0 a1 a2 c0 c1 c2 l1 l2
          go_wp2_with fail
          go_roundw
          case rel => exact ⟨0 + 1, by omega, by omega, rfl, HB2, Lib.hid K2.out.2⟩
          case measure => simp [intOf]
        · have a0 := K.out.1.cell 3
          have a1 := K.out.1.cell 4
          have a2 := K.out.1.cell 5
          simp at a0 a1 a2
          obtain ⟨c0, c1, c2⟩ := blk3_facts K.out.2.1
          have l1 := K.out.1.lt; have l2 := K.out.2.1.lt
          dsimp only at l1 l2
          have HF := Lib.hid (exF K.out.2)
          go_wp2_with fail
          refine (price_c _ _ _ _ _ _ _ _ _ [10, 0] [3, 1048576] [(2, 5), (8, 7)] (2) (1) (1) (0) 1 _ (Lib.hid (HF.out.below (bel_alloc1 _ _))) ex2_1.1 ex2_1.2).mono ?_; rintro e w2 ⟨rfl, hb⟩
          have K2 := Lib.hid (K.out.new2 hb)
          have HB2 := Lib.hid (belB2 HB.out hb); clear hb a0 a1 a2 c0 c1 c2 l1 l2
          go_wp2_with fail
          go_roundw
          case rel => exact ⟨1 + 1, by omega, by omega, rfl, HB2, Lib.hid K2.out.2⟩
          case measure => simp [intOf]
        · have a0 := K.out.1.cell 6
          have a1 := K.out.1.cell 7
          have a2 := K.out.1.cell 8
          simp at a0 a1 a2
          obtain ⟨c0, c1, c2⟩ := blk3_facts K.out.2.1
          have l1 := K.out.1.lt; have l2 := K.out.2.1.lt
          dsimp only at l1 l2
          have HF := Lib.hid (exF K.out.2)
          go_wp2_with fail
          refine (price_c _ _ _ _ _ _ _ _ _ [10, 0] [3, 1048576] [(2, 5), (8, 7)] (0) (0) (1) (0) 1 _ (Lib.hid (HF.out.below (bel_alloc1 _ _))) ex2_2.1 ex2_2.2).mono ?_; rintro e w2 ⟨rfl, hb⟩
          have K2 := Lib.hid (K.out.new2 hb)
          have HB2 := Lib.hid (belB2 HB.out hb); clear hb a0 a1 a2 c0 c1 c2 l1 l2
          go_wp2_with fail
          go_roundw
          case rel => exact ⟨2 + 1, by omega, by omega, rfl, HB2, Lib.hid K2.out.2⟩
          case measure => simp [intOf]
        · have a0 := K.out.1.cell 9
          have a1 := K.out.1.cell 10
          have a2 := K.out.1.cell 11
          simp at a0 a1 a2
          obtain ⟨c0, c1, c2⟩ := blk3_facts K.out.2.1
          have l1 := K.out.1.lt; have l2 := K.out.2.1.lt
          dsimp only at l1 l2
          have HF := Lib.hid (exF K.out.2)
          go_wp2_with fail
          refine (price_c _ _ _ _ _ _ _ _ _ [10, 0] [3, 1048576] [(2, 5), (8, 7)] (0) (9) (1) (0) 1 _ (Lib.hid (HF.out.below (bel_alloc1 _ _))) ex2_3.1 ex2_3.2).mono ?_; rintro e w2 ⟨rfl, hb⟩
          have K2 := Lib.hid (K.out.new2 hb)
          have HB2 := Lib.hid (belB2 HB.out hb); clear hb a0 a1 a2 c0 c1 c2 l1 l2
          go_wp2_with fail
          go_roundw
          case rel => exact ⟨3 + 1, by omega, by omega, rfl, HB2, Lib.hid K2.out.2⟩
          case measure => simp [intOf]
        · have a0 := K.out.1.cell 12
          have a1 := K.out.1.cell 13
          have a2 := K.out.1.cell 14
          simp at a0 a1 a2
          obtain ⟨c0, c1, c2⟩ := blk3_facts K.out.2.1
          have l1 := K.out.1.lt; have l2 := K.out.2.1.lt
          dsimp only at l1 l2
          have HF := Lib.hid (exF K.out.2)
          go_wp2_with fail
          refine (price_c _ _ _ _ _ _ _ _ _ [10, 0] [3, 1048576] [(2, 5), (8, 7)] (0) (1) (0) (0) 1 _ (Lib.hid (HF.out.below (bel_alloc1 _ _))) ex2_4.1 ex2_4.2).mono ?_; rintro e w2 ⟨rfl, hb⟩
          have K2 := Lib.hid (K.out.new2 hb)
          have HB2 := Lib.hid (belB2 HB.out hb); clear hb a0 a1 a2 c0 c1 c2 l1 l2
          go_wp2_with fail
          go_roundw
          case rel => exact ⟨4 + 1, by omega, by omega, rfl, HB2, Lib.hid K2.out.2⟩
          case measure => simp [intOf]
        · have a0 := K.out.1.cell 15
          have a1 := K.out.1.cell 16
          have a2 := K.out.1.cell 17
          simp at a0 a1 a2
          obtain ⟨c0, c1, c2⟩ := blk3_facts K.out.2.1
          have l1 := K.out.1.lt; have l2 := K.out.2.1.lt
          dsimp only at l1 l2
          have HF := Lib.hid (exF K.out.2)
          go_wp2_with fail
          refine (price_c _ _ _ _ _ _ _ _ _ [10, 0] [3, 1048576] [(2, 5), (8, 7)] (0) (1) (65) (0) 1 _ (Lib.hid (HF.out.below (bel_alloc1 _ _))) ex2_5.1 ex2_5.2).mono ?_; rintro e w2 ⟨rfl, hb⟩
          have K2 := Lib.hid (K.out.new2 hb)
          have HB2 := Lib.hid (belB2 HB.out hb); clear hb a0 a1 a2 c0 c1 c2 l1 l2
          go_wp2_with fail
          go_roundw
          case rel => exact ⟨5 + 1, by omega, by omega, rfl, HB2, Lib.hid K2.out.2⟩
          case measure => simp [intOf]
        · obtain ⟨c0, c1, c2⟩ := blk3_facts K.out.2.1
          have l2 := K.out.2.1.lt
          dsimp only at l2
          go_wp2_with fail
          refine (shares_any _ _ _ _ _ _ _ _ _ [10, 0] [3, 1048576] [(2, 5), (8, 7)] 0 4 8 _ (Lib.hid (exF K.out.2))).mono ?_
          rintro e w2 ⟨v, rfl, ho, hb⟩
          rw [ex3.1] at ho
          rw [ex3.2.1, ex3.2.2]
          have HO := Lib.hid ho
          have K2 := Lib.hid (K.out.below hb)
          have HB2 := Lib.hid (bel_trans HB.out hb); clear hb ho c0 c1 c2 l2
          obtain ⟨c0, c1, c2⟩ := blk3_facts K2.out.2.1
          have c3 := K2.out.2.1.frozen 2
          have l2 := K2.out.2.1.lt
          dsimp only at l2 c3
          go_wp2_with fail
          obtain ⟨X, hX⟩ : ∃ X, ((w2.setCell ⟨w.heap.size + 1 + 1 + 1, 2, none⟩ (.slice (some ⟨w2.heap.size, 0, none⟩) 1 1)).alloc (.cells #[.int .i64 0, .int .i64 0] 38)).alloc (.cells #[.int .i64 3, .int .i64 3, .int .i64 3, .int .i64 3] 3) = X := ⟨_, rfl⟩
          have hbX : Below w.heap.size w X := by
            rw [← hX]; exact bel_al (bel_al (HB2.out.setCell (p := ⟨w.heap.size + 1 + 1 + 1, 2, none⟩) (by show w.heap.size ≤ w.heap.size + 1 + 1 + 1; omega) _) _) _
          have hlt := K2.out.2.1.lt
          dsimp only at hlt
          have kX : Blks X [(w2.heap.size + 1, #[.int .i64 3, .int .i64 3, .int .i64 3, .int .i64 3], 3), (w2.heap.size, #[.int .i64 0, .int .i64 0], 38), (w.heap.size + 1 + 1 + 1, #[.slice (some ⟨w.heap.size, 0, none⟩) 2 2, .slice (some ⟨w.heap.size + 1, 0, none⟩) 2 2, .slice (some ⟨w2.heap.size, 0, none⟩) 1 1], 25), (w.heap.size + 1 + 1, #[.int .i64 2, .int .i64 5, .int .i64 8, .int .i64 7], 38), (w.heap.size + 1, #[.int .i64 3, .int .i64 1048576], 3), (w.heap.size, #[.int .i64 10, .int .i64 0], 3)] := by
            rw [← hX]
            have h := (((Blks.set K2.out.2 (by simp; omega) 2 (.slice (some ⟨w2.heap.size, 0, none⟩) 1 1)).box #[.int .i64 0, .int .i64 0] 38).box #[.int .i64 3, .int .i64 3, .int .i64 3, .int .i64 3] 3)
            simp only [World.size_alloc, World.size_setCell] at h
            exact h
          have hoX : Own X wr.heap.size v [3, 3, 3, 3] := by
            rw [← hX]; exact ((own_set HO.out (b := w.heap.size + 1 + 1 + 1) K.out.2.1.lt).alloc _).alloc _
          obtain ⟨p, cap, rfl, hV⟩ := hoX.intsV (by intro z hz; simp at hz; subst hz; exact ⟨by omega, by omega⟩)
          have HVX := Lib.hid hV; have KX := Lib.hid kX; have HBX := Lib.hid hbX
          rw [hX]
          clear hV kX hbX hX hoX hlt c0 c1 c2 c3 l2
          refine (same_any p _ 4 cap 4 4 [3, 3, 3, 3] [3, 3, 3, 3] _ HVX (Lib.hid (ints_blk (zs := [3, 3, 3, 3]) KX.out.1 (by simp) (by intro z hz; simp at hz; subst hz; exact ⟨by omega, by omega⟩)))).mono ?_
          rintro e w3 ⟨rfl, hb⟩
          rw [show (([3, 3, 3, 3] : List Int) == [3, 3, 3, 3]) = true from rfl]
          have K3 := Lib.hid (KX.out.below hb)
          have HB3 := Lib.hid (bel_trans HBX.out hb); clear hb
          obtain ⟨c0, c1, c2⟩ := blk3_facts K3.out.2.2.1
          have l2 := K3.out.2.2.1.lt
          dsimp only at l2
          go_wp2_with fail
          refine (check_c _ _ _ _ _ _ _ _ _ [10, 0] [3, 1048576] [(0, 0)] 210 _ (Lib.hid ⟨ints_blk (zs := [10, 0]) K3.out.2.2.2.2.2.1 (by simp) (by intro z hz; simp at hz; rcases hz with rfl | rfl <;> exact ⟨by omega, by omega⟩), ints_blk (zs := [3, 1048576]) K3.out.2.2.2.2.1 (by simp) (by intro z hz; simp at hz; rcases hz with rfl | rfl <;> exact ⟨by omega, by omega⟩), exT0 K3.out.2.1⟩) ex4.1).mono ?_
          rintro e w4 ⟨rfl, hb⟩
          have HB4 := Lib.hid (bel_trans HB3.out hb); clear hb c0 c1 c2 l2
          go_wp2_with fail
          refine (check_c none 0 0 none 0 0 none 0 0 [] [] [] 210 _ (Lib.hid ⟨⟨rfl, by omega, by simp, .inl rfl⟩, ⟨rfl, by omega, by simp, .inl rfl⟩, ⟨rfl, by omega, by simp, .inl rfl⟩⟩) ex4.2.1).mono ?_
          rintro e w5 ⟨rfl, hb⟩
          have HB5 := Lib.hid (bel_trans HB4.out hb); clear hb
          go_wp2_with fail
          refine (check_c _ _ _ _ _ _ none 0 0 [1] [0] [] 0 _ (Lib.hid ⟨(ints1_new w5 _ 1 ⟨by omega, by omega⟩).below (bel_alloc1 _ _), ?_, ⟨rfl, by omega, by simp, .inl rfl⟩⟩) ex4.2.2).mono ?_
          · have h := ints1_new (w5.alloc (.cells #[.int .i64 1] 3)) 3 0 ⟨by omega, by omega⟩
            simp only [World.size_alloc] at h; exact h
          rintro e w6 ⟨rfl, hb⟩
          have HB6 := Lib.hid (bel_trans (bel_al (bel_al HB5.out _) _) hb); clear hb
          go_wp2_with fail
          go_ret
          exact ⟨rfl, HB6.out⟩
end Go.Proofs.Yticaeecfhfjjeaa
