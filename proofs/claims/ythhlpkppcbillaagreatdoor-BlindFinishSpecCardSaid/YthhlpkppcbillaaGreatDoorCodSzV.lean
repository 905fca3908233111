/- How long the encoding of a value is, bounded: codec.sizeValue, sizeList. -/
import Derived.Test.YthhlpkppcbillaaGreatDoorCodSzT
import Derived.Test.YthhlpkppcbillaaGreatDoorCodLst
import Derived.Deep.RegionHeld3
namespace Go.Proofs.YthhlpkppcbillaaGreatDoor
open Go.RowKit
set_option linter.unusedVariables false
set_option linter.unusedSimpArgs false
attribute [local go_sem] idx_form1 idx_form2 idx_form3 fld_form10 fld_form11 fld_form12 fld_form20 fld_form21 fld_form22 fld_form30 fld_form31 fld_form32
set_option maxRecDepth 100000 in
set_option maxHeartbeats 2000000 in
theorem sizeValue_int (n : Nat) (w : World) (hn : n < 4611686018427387904) : Calls Tryz.prog 55 #[.agg #[.int .i64 1, .int .i64 n, .string ⟨#[]⟩, .slice none 0 0]] w fun e w' => (∃ k : Nat, e = .returned (.int .i64 k) ∧ k ≤ 11) ∧ Below w.heap.size w w' := by
  go_enter Tryz.func55, Tryz.ntmps55
  go_wp2_with fail
  obtain ⟨W, hW⟩ : ∃ W, W = w.alloc (.cells #[.int .i64 1, .int .i64 n, .string ⟨#[]⟩, .slice none 0 0] 54) := ⟨_, rfl⟩
  have hb : Below w.heap.size w W := by rw [hW]; exact bel_alloc1 w _
  have f0 : W.cell? ⟨w.heap.size, 0, none⟩ = some (.int .i64 1) := by rw [hW]; exact ((Blk.new w _ _).cell 0).trans rfl
  have f1 : W.cell? ⟨w.heap.size, 1, none⟩ = some (.int .i64 n) := by rw [hW]; exact ((Blk.new w _ _).cell 1).trans rfl
  have f2 : W.cell? ⟨w.heap.size, 2, none⟩ = some (.string ⟨#[]⟩) := by rw [hW]; exact ((Blk.new w _ _).cell 2).trans rfl
  have f3 : W.cell? ⟨w.heap.size, 3, none⟩ = some (.slice none 0 0) := by rw [hW]; exact ((Blk.new w _ _).cell 3).trans rfl
  have lw : w.heap.size < W.heap.size := by rw [hW]; simp
  rw [← hW]
  have HB := Lib.hid hb
  have HALL : Hid (∀ w', Below W.heap.size W w' → (Below W.heap.size W w' ∧ w'.cell? ⟨w.heap.size, 0, none⟩ = some (.int .i64 1) ∧ w'.cell? ⟨w.heap.size, 1, none⟩ = some (.int .i64 n) ∧ w'.cell? ⟨w.heap.size, 2, none⟩ = some (.string ⟨#[]⟩) ∧ w'.cell? ⟨w.heap.size, 3, none⟩ = some (.slice none 0 0))) :=
    Lib.hid fun w' h => ⟨h, (h.cell (p := ⟨w.heap.size, 0, none⟩) lw).trans f0, (h.cell (p := ⟨w.heap.size, 1, none⟩) lw).trans f1, (h.cell (p := ⟨w.heap.size, 2, none⟩) lw).trans f2, (h.cell (p := ⟨w.heap.size, 3, none⟩) lw).trans f3⟩
  have HRF := Lib.hid (Below.refl W.heap.size W)
  clear f0 f1 f2 f3 hb hW
  go_region_held3 (fun w' => (Below W.heap.size W w' ∧ w'.cell? ⟨w.heap.size, 0, none⟩ = some (.int .i64 1) ∧ w'.cell? ⟨w.heap.size, 1, none⟩ = some (.int .i64 n) ∧ w'.cell? ⟨w.heap.size, 2, none⟩ = some (.string ⟨#[]⟩) ∧ w'.cell? ⟨w.heap.size, 3, none⟩ = some (.slice none 0 0)))
    (first | (exact HALL.out _ HRF.out.drew) | assumption | (exact HALL.out _ (bel_al (And.left (by assumption)) _)) | (exact HALL.out _ (bel_trans (And.left (by assumption)) (by assumption))))
    (first
      | (go_at_call 66; refine (forms_lit _).mono ?_; rintro e u2 ⟨rfl, hbf⟩)
      | (go_at_call 74; refine (sizeInt_any n _ hn).mono ?_; rintro e u3 ⟨⟨k, rfl, hk⟩, hbc⟩))
  go_wp2_with fail
  go_ret
  have hw2 : IntKind.i64.wrap (1 + (k : Int)) = ((k + 1 : Nat) : Int) := by rw [IntWalk.i64_in _ (by omega)]; omega
  exact ⟨⟨k + 1, congrArg (fun z => Ending.returned (Value.int IntKind.i64 z)) hw2, by omega⟩, bel_trans HB.out (And.left (by assumption))⟩
set_option maxRecDepth 100000 in
set_option maxHeartbeats 2000000 in
theorem sizeValue_text (s : ByteArray) (w : World) (hs : s.size ≤ 1073741824) : Calls Tryz.prog 55 #[.agg #[.int .i64 2, .int .i64 0, .string s, .slice none 0 0]] w fun e w' => (∃ k : Nat, e = .returned (.int .i64 k) ∧ k ≤ 11 + s.size) ∧ Below w.heap.size w w' := by
  go_enter Tryz.func55, Tryz.ntmps55
  go_wp2_with fail
  obtain ⟨W, hW⟩ : ∃ W, W = w.alloc (.cells #[.int .i64 2, .int .i64 0, .string s, .slice none 0 0] 54) := ⟨_, rfl⟩
  have hb : Below w.heap.size w W := by rw [hW]; exact bel_alloc1 w _
  have f0 : W.cell? ⟨w.heap.size, 0, none⟩ = some (.int .i64 2) := by rw [hW]; exact ((Blk.new w _ _).cell 0).trans rfl
  have f1 : W.cell? ⟨w.heap.size, 1, none⟩ = some (.int .i64 0) := by rw [hW]; exact ((Blk.new w _ _).cell 1).trans rfl
  have f2 : W.cell? ⟨w.heap.size, 2, none⟩ = some (.string s) := by rw [hW]; exact ((Blk.new w _ _).cell 2).trans rfl
  have f3 : W.cell? ⟨w.heap.size, 3, none⟩ = some (.slice none 0 0) := by rw [hW]; exact ((Blk.new w _ _).cell 3).trans rfl
  have lw : w.heap.size < W.heap.size := by rw [hW]; simp
  rw [← hW]
  have HB := Lib.hid hb
  have HALL : Hid (∀ w', Below W.heap.size W w' → (Below W.heap.size W w' ∧ w'.cell? ⟨w.heap.size, 0, none⟩ = some (.int .i64 2) ∧ w'.cell? ⟨w.heap.size, 1, none⟩ = some (.int .i64 0) ∧ w'.cell? ⟨w.heap.size, 2, none⟩ = some (.string s) ∧ w'.cell? ⟨w.heap.size, 3, none⟩ = some (.slice none 0 0))) :=
    Lib.hid fun w' h => ⟨h, (h.cell (p := ⟨w.heap.size, 0, none⟩) lw).trans f0, (h.cell (p := ⟨w.heap.size, 1, none⟩) lw).trans f1, (h.cell (p := ⟨w.heap.size, 2, none⟩) lw).trans f2, (h.cell (p := ⟨w.heap.size, 3, none⟩) lw).trans f3⟩
  have HRF := Lib.hid (Below.refl W.heap.size W)
  clear f0 f1 f2 f3 hb hW
  go_region_held3 (fun w' => (Below W.heap.size W w' ∧ w'.cell? ⟨w.heap.size, 0, none⟩ = some (.int .i64 2) ∧ w'.cell? ⟨w.heap.size, 1, none⟩ = some (.int .i64 0) ∧ w'.cell? ⟨w.heap.size, 2, none⟩ = some (.string s) ∧ w'.cell? ⟨w.heap.size, 3, none⟩ = some (.slice none 0 0)))
    (first | (exact HALL.out _ HRF.out.drew) | assumption | (exact HALL.out _ (bel_al (And.left (by assumption)) _)) | (exact HALL.out _ (bel_trans (And.left (by assumption)) (by assumption))))
    (first
      | (go_at_call 66; refine (forms_lit _).mono ?_; rintro e u2 ⟨rfl, hbf⟩)
      | (go_at_call 78; refine (sizeText_any s _ hs).mono ?_; rintro e u3 ⟨⟨k, rfl, hk⟩, hbc⟩))
  go_wp2_with fail
  go_ret
  have hw2 : IntKind.i64.wrap (1 + (k : Int)) = ((k + 1 : Nat) : Int) := by rw [IntWalk.i64_in _ (by omega)]; omega
  exact ⟨⟨k + 1, congrArg (fun z => Ending.returned (Value.int IntKind.i64 z)) hw2, by omega⟩, bel_trans HB.out (And.left (by assumption))⟩
theorem sizeValue_atom (a : Atom) (ha : a.ok) (w : World) : Calls Tryz.prog 55 #[.agg #[.int .i64 a.kind, .int .i64 a.num, .string a.str, .slice none 0 0]] w fun e w' => (∃ k : Nat, e = .returned (.int .i64 k) ∧ k ≤ a.sz) ∧ Below w.heap.size w w' := by
  cases a with
  | int n =>
    obtain ⟨h1, h2⟩ := ha
    obtain ⟨m, rfl⟩ := Int.eq_ofNat_of_zero_le h1
    exact (sizeValue_int m w (by omega)).mono fun e w' ⟨⟨k, h, hk⟩, hb⟩ => ⟨⟨k, h, by simp only [Atom.sz]; omega⟩, hb⟩
  | text s =>
    exact (sizeValue_text (strB s) w (by rw [strB_size]; have := ha.1; omega)).mono fun e w' ⟨⟨k, h, hk⟩, hb⟩ => ⟨⟨k, h, by rw [strB_size] at hk; simp only [Atom.sz]; omega⟩, hb⟩
set_option maxRecDepth 100000 in
set_option maxHeartbeats 2000000 in
theorem sizeList_any (l : List Atom) (b o n cap : Nat) (w : World) (hn : Hid (n = l.length)) (hm : n ≤ 1000000) (hok : Hid (∀ a ∈ l, a.ok)) (hb : b < w.heap.size) (hl : Hid (AtomsAt w b o l)) (hx : lenA l ≤ 2000000000) :
    Calls Tryz.prog 82 #[.agg #[.int .i64 3, .int .i64 0, .string ⟨#[]⟩, .slice (some ⟨b, o, none⟩) n cap]] w fun e w' => (∃ k : Nat, e = .returned (.int .i64 k) ∧ k ≤ 10 + lenA l) ∧ Below w.heap.size w w' := by
  go_enter Tryz.func82, Tryz.ntmps82
  go_wp2_with (go_at_call 95; refine (sizeNumeral_any n _ (by omega)).mono ?_; rintro e u1 ⟨⟨k0, rfl, hk0⟩, rfl⟩)
  go_loopw [3, 14] (fun x i wr => ∃ k s : Nat, k ≤ n ∧ i = .int .i64 k ∧ x = .int .i64 s ∧ s ≤ 10 + lenA (l.take k) ∧ Hid (Below w.heap.size w wr)) (fun _ i _ => n - (intOf i).toNat)
  case atStart => exact ⟨0, k0, by omega, rfl, rfl, by omega, Lib.hid (bel_alloc1 w _)⟩
  case round =>
    obtain ⟨k, s, hk, rfl, rfl, hs, HB⟩ := hrel
    have HSB := Lib.hid hs
    clear hs
    by_cases hlt : k < n
    · have hbr : b < wr.heap.size := Nat.lt_of_lt_of_le hb HB.out.size
      have hkl : k < l.length := by rw [← hn.out]; exact hlt
      obtain ⟨c0, c1, c2, c3⟩ := hl.out.below HB.out hb k hkl
      have hsz := lenA_take hkl
      have hat := hok.out _ (getD_mem' hkl)
      obtain ⟨at', hx'⟩ : ∃ x, l.getD k (.int 0) = x := ⟨_, rfl⟩
      rw [hx'] at c0 c1 c2 hsz hat
      have HX := Lib.hid hx'; have HS := Lib.hid hsz; have HA := Lib.hid hat
      have hs1 : s ≤ 2000000010 := by have := HSB.out; omega
      clear hx' hsz hat
      go_wp2_with (go_at_call 55; refine (sizeValue_atom at' HA.out _).mono ?_; rintro e u1 ⟨⟨k1, rfl, hk1⟩, hbw⟩; have hk2 : k1 ≤ 2000000010 := by (have := HS.out; omega))
      refine ⟨⟨k + 1, s + k1, by omega, by simp, by simp, by have := HSB.out; have := HS.out; omega, Lib.hid (bel_trans HB.out (bel_trans (bel_alloc1 wr _) hbw))⟩, ?_⟩
      simp only [intOf]; omega
    · obtain rfl : k = n := by omega
      go_wp2_with fail
      go_ret
      refine ⟨⟨s, rfl, ?_⟩, HB.out⟩
      have := HSB.out
      rwa [List.take_of_length_le (by have := hn.out; omega)] at this
set_option maxRecDepth 100000 in
set_option maxHeartbeats 2000000 in
theorem sizeValue_list (l : List Atom) (b o n cap : Nat) (w : World) (hn : Hid (n = l.length)) (hm : n ≤ 1000000) (hok : Hid (∀ a ∈ l, a.ok)) (hbw : b < w.heap.size) (hl : Hid (AtomsAt w b o l)) (hx : lenA l ≤ 2000000000) : Calls Tryz.prog 55 #[.agg #[.int .i64 3, .int .i64 0, .string ⟨#[]⟩, .slice (some ⟨b, o, none⟩) n cap]] w fun e w' => (∃ k : Nat, e = .returned (.int .i64 k) ∧ k ≤ 11 + lenA l) ∧ Below w.heap.size w w' := by
  go_enter Tryz.func55, Tryz.ntmps55
  go_wp2_with fail
  obtain ⟨W, hW⟩ : ∃ W, W = w.alloc (.cells #[.int .i64 3, .int .i64 0, .string ⟨#[]⟩, .slice (some ⟨b, o, none⟩) n cap] 54) := ⟨_, rfl⟩
  have hb : Below w.heap.size w W := by rw [hW]; exact bel_alloc1 w _
  have f0 : W.cell? ⟨w.heap.size, 0, none⟩ = some (.int .i64 3) := by rw [hW]; exact ((Blk.new w _ _).cell 0).trans rfl
  have f1 : W.cell? ⟨w.heap.size, 1, none⟩ = some (.int .i64 0) := by rw [hW]; exact ((Blk.new w _ _).cell 1).trans rfl
  have f2 : W.cell? ⟨w.heap.size, 2, none⟩ = some (.string ⟨#[]⟩) := by rw [hW]; exact ((Blk.new w _ _).cell 2).trans rfl
  have f3 : W.cell? ⟨w.heap.size, 3, none⟩ = some (.slice (some ⟨b, o, none⟩) n cap) := by rw [hW]; exact ((Blk.new w _ _).cell 3).trans rfl
  have lw : w.heap.size < W.heap.size := by rw [hW]; simp
  rw [← hW]
  have HB := Lib.hid hb
  have HALL : Hid (∀ w', Below W.heap.size W w' → (Below W.heap.size W w' ∧ w'.cell? ⟨w.heap.size, 0, none⟩ = some (.int .i64 3) ∧ w'.cell? ⟨w.heap.size, 1, none⟩ = some (.int .i64 0) ∧ w'.cell? ⟨w.heap.size, 2, none⟩ = some (.string ⟨#[]⟩) ∧ w'.cell? ⟨w.heap.size, 3, none⟩ = some (.slice (some ⟨b, o, none⟩) n cap))) :=
    Lib.hid fun w' h => ⟨h, (h.cell (p := ⟨w.heap.size, 0, none⟩) lw).trans f0, (h.cell (p := ⟨w.heap.size, 1, none⟩) lw).trans f1, (h.cell (p := ⟨w.heap.size, 2, none⟩) lw).trans f2, (h.cell (p := ⟨w.heap.size, 3, none⟩) lw).trans f3⟩
  have HRF := Lib.hid (Below.refl W.heap.size W)
  have HBL : Hid (∀ w', Below W.heap.size W w' → b < w'.heap.size) := Lib.hid fun w' h => Nat.lt_of_lt_of_le hbw (Nat.le_trans HB.out.size h.size)
  have HZL : Hid (∀ w', Below W.heap.size W w' → Hid (AtomsAt w' b o l)) := Lib.hid fun w' h => Lib.hid (hl.out.below (bel_trans HB.out h) hbw)
  clear f0 f1 f2 f3 hb hW
  go_region_held3 (fun w' => (Below W.heap.size W w' ∧ w'.cell? ⟨w.heap.size, 0, none⟩ = some (.int .i64 3) ∧ w'.cell? ⟨w.heap.size, 1, none⟩ = some (.int .i64 0) ∧ w'.cell? ⟨w.heap.size, 2, none⟩ = some (.string ⟨#[]⟩) ∧ w'.cell? ⟨w.heap.size, 3, none⟩ = some (.slice (some ⟨b, o, none⟩) n cap)))
    (first | (exact HALL.out _ HRF.out.drew) | assumption | (exact HALL.out _ (bel_al (And.left (by assumption)) _)) | (exact HALL.out _ (bel_trans (And.left (by assumption)) (by assumption))))
    (first
      | (go_at_call 66; refine (forms_lit _).mono ?_; rintro e u2 ⟨rfl, hbf⟩)
      | (go_at_call 82; refine (sizeList_any l b o n cap _ hn hm hok (HBL.out _ (And.left (by assumption))) (HZL.out _ (And.left (by assumption))) hx).mono ?_; rintro e u3 ⟨⟨k, rfl, hk⟩, hbc⟩))
  go_wp2_with fail
  go_ret
  have hw2 : IntKind.i64.wrap (1 + (k : Int)) = ((k + 1 : Nat) : Int) := by rw [IntWalk.i64_in _ (by omega)]; omega
  exact ⟨⟨k + 1, congrArg (fun z => Ending.returned (Value.int IntKind.i64 z)) hw2, by omega⟩, bel_trans HB.out (And.left (by assumption))⟩
end Go.Proofs.YthhlpkppcbillaaGreatDoor
