/- Depth, well formed lists of atoms, Check. -/
import Derived.Test.YthhlpkppcbillaaGreatDoorCodMem
import Derived.Deep.RegionHeld3
namespace Go.Proofs.YthhlpkppcbillaaGreatDoor
open Go.RowKit
set_option linter.unusedVariables false
attribute [local go_sem] idx_form1 idx_form2 idx_form3 fld_form10 fld_form11 fld_form12 fld_form20 fld_form21 fld_form22 fld_form30 fld_form31 fld_form32
set_option maxRecDepth 100000 in
set_option maxHeartbeats 2000000 in
theorem wf_list (l : List Atom) (b o n cap : Nat) (w : World) (hn : Hid (n = l.length)) (hm : n ≤ 4611686018427387904) (hbw : b < w.heap.size) (hl : Hid (AtomsAt w b o l)) : Calls Tryz.prog 64 #[.agg #[.int .i64 3, .int .i64 0, .string ⟨#[]⟩, .slice (some ⟨b, o, none⟩) n cap]] w fun e w' => e = .returned (.bool true) ∧ Below w.heap.size w w' := by
  go_enter Tryz.func64, Tryz.ntmps64
  go_wp2_with fail
  obtain ⟨W, hW⟩ : ∃ W, W = w.alloc (.cells #[.int .i64 3, .int .i64 0, .string ⟨#[]⟩, .slice (some ⟨b, o, none⟩) n cap] 54) := ⟨_, rfl⟩
  have hb : Below w.heap.size w W := by rw [hW]; exact bel_alloc1 w _
  have f0 : W.cell? ⟨w.heap.size, 0, none⟩ = some (.int .i64 3) := by rw [hW]; exact ((Blk.new w _ _).cell 0).trans rfl
  have f1 : W.cell? ⟨w.heap.size, 1, none⟩ = some (.int .i64 0) := by rw [hW]; exact ((Blk.new w _ _).cell 1).trans rfl
  have f2 : W.cell? ⟨w.heap.size, 2, none⟩ = some (.string ⟨#[]⟩) := by rw [hW]; exact ((Blk.new w _ _).cell 2).trans rfl
  have f3 : W.cell? ⟨w.heap.size, 3, none⟩ = some (.slice (some ⟨b, o, none⟩) n cap) := by rw [hW]; exact ((Blk.new w _ _).cell 3).trans rfl
  have lw : w.heap.size < W.heap.size := by rw [hW]; simp
  rw [← hW]
  have HB := Lib.hid hb
  have HALL : Hid (∀ w', Below W.heap.size W w' → (Below W.heap.size W w' ∧ w'.cell? ⟨w.heap.size, 0, none⟩ = some (.int .i64 3) ∧ w'.cell? ⟨w.heap.size, 1, none⟩ = some (.int .i64 0) ∧ w'.cell? ⟨w.heap.size, 2, none⟩ = some (.string ⟨#[]⟩) ∧ w'.cell? ⟨w.heap.size, 3, none⟩ = some (.slice (some ⟨b, o, none⟩) n cap))) :=
    Lib.hid fun w' h => ⟨h, (h.cell (p := ⟨w.heap.size, 0, none⟩) lw).trans f0, (h.cell (p := ⟨w.heap.size, 1, none⟩) lw).trans f1, (h.cell (p := ⟨w.heap.size, 2, none⟩) lw).trans f2, (h.cell (p := ⟨w.heap.size, 3, none⟩) lw).trans f3⟩
  have HRF := Lib.hid (Below.refl W.heap.size W)
  have HBL : Hid (∀ w', Below W.heap.size W w' → b < w'.heap.size) := Lib.hid fun w' h => Nat.lt_of_lt_of_le hbw (Nat.le_trans HB.out.size h.size)
  have HZL : Hid (∀ w', Below W.heap.size W w' → Hid (AtomsAt w' b o l)) := Lib.hid fun w' h => Lib.hid (hl.out.below (bel_trans HB.out h) hbw)
  clear f0 f1 f2 f3 hb hW
  go_region_held3 (fun w' => (Below W.heap.size W w' ∧ w'.cell? ⟨w.heap.size, 0, none⟩ = some (.int .i64 3) ∧ w'.cell? ⟨w.heap.size, 1, none⟩ = some (.int .i64 0) ∧ w'.cell? ⟨w.heap.size, 2, none⟩ = some (.string ⟨#[]⟩) ∧ w'.cell? ⟨w.heap.size, 3, none⟩ = some (.slice (some ⟨b, o, none⟩) n cap)))
    (first | (exact HALL.out _ HRF.out.drew) | assumption | (exact HALL.out _ (bel_al (And.left (by assumption)) _)) | (exact HALL.out _ (bel_trans (And.left (by assumption)) (by assumption))))
    (first
      | (go_at_call 71; refine (known_yes 3 _ (by decide) (by decide)).mono ?_; rintro e u1 ⟨rfl, rfl⟩)
      | (go_at_call 66; refine (forms_lit _).mono ?_; rintro e u2 ⟨rfl, hbf⟩)
      | (go_at_call 80; refine (cleanList_any l b o n cap _ hn hm (HBL.out _ (And.left (by assumption))) (HZL.out _ (And.left (by assumption)))).mono ?_; rintro e u3 ⟨rfl, hbc⟩))
  go_wp2_with fail
  go_ret
  refine ⟨rfl, ?_⟩
  exact bel_trans HB.out (And.left (by assumption))
set_option maxRecDepth 100000 in
set_option maxHeartbeats 2000000 in
theorem depth_atom (a : Atom) (w : World) : Calls Tryz.prog 65 #[.agg #[.int .i64 a.kind, .int .i64 a.num, .string a.str, .slice none 0 0]] w fun e w' => e = .returned (.int .i64 0) ∧ Below w.heap.size w w' := by
  cases a with
  | int n =>
    dsimp only [Atom.kind, Atom.num, Atom.str]
    go_enter Tryz.func65, Tryz.ntmps65
    go_wp2_with fail
    go_ret
    exact ⟨rfl, bel_alloc1 w _⟩
  | text s =>
    dsimp only [Atom.kind, Atom.num, Atom.str]
    go_enter Tryz.func65, Tryz.ntmps65
    go_wp2_with fail
    go_ret
    exact ⟨rfl, bel_alloc1 w _⟩
set_option maxRecDepth 100000 in
set_option maxHeartbeats 2000000 in
theorem depth_list (l : List Atom) (b o n cap : Nat) (w : World) (hn : Hid (n = l.length)) (hm : n ≤ 4611686018427387904) (hb : b < w.heap.size) (hl : Hid (AtomsAt w b o l)) :
    Calls Tryz.prog 65 #[.agg #[.int .i64 3, .int .i64 0, .string ⟨#[]⟩, .slice (some ⟨b, o, none⟩) n cap]] w fun e w' => e = .returned (.int .i64 1) ∧ Below w.heap.size w w' := by
  go_enter Tryz.func65, Tryz.ntmps65
  go_wp2_with fail
  go_loopw [3, 12] (fun x i wr => ∃ k : Nat, k ≤ n ∧ i = .int .i64 k ∧ x = .int .i64 0 ∧ Hid (Below w.heap.size w wr)) (fun _ i _ => n - (intOf i).toNat)
  case atStart => exact ⟨0, by omega, rfl, rfl, Lib.hid (bel_alloc1 w _)⟩
  case round =>
    obtain ⟨k, hk, rfl, rfl, HB⟩ := hrel
    by_cases hlt : k < n
    · have hbr : b < wr.heap.size := Nat.lt_of_lt_of_le hb HB.out.size
      obtain ⟨c0, c1, c2, c3⟩ := hl.out.below HB.out hb k (by rw [← hn.out]; exact hlt)
      obtain ⟨at', hx⟩ : ∃ x, l.getD k (.int 0) = x := ⟨_, rfl⟩
      rw [hx] at c0 c1 c2
      have HX := Lib.hid hx; clear hx
      go_wp2_with (go_at_call 65; refine (depth_atom at' _).mono ?_; rintro e u1 ⟨rfl, hbw⟩)
      refine ⟨⟨k + 1, by omega, by simp, rfl, Lib.hid (bel_trans HB.out (bel_trans (bel_alloc1 wr _) hbw))⟩, ?_⟩
      simp only [intOf]; omega
    · go_wp2_with fail
      go_ret
      exact ⟨rfl, HB.out⟩
set_option maxRecDepth 100000 in
set_option maxHeartbeats 2000000 in
theorem check_list (l : List Atom) (b o n cap : Nat) (w : World) (hn : Hid (n = l.length)) (hm : n ≤ 4611686018427387904) (hb : b < w.heap.size) (hl : Hid (AtomsAt w b o l)) :
    Calls Tryz.prog 53 #[.agg #[.int .i64 3, .int .i64 0, .string ⟨#[]⟩, .slice (some ⟨b, o, none⟩) n cap]] w fun e w' => e = .returned (.int .i64 0) ∧ Below w.heap.size w w' := by
  go_enter Tryz.func53, Tryz.ntmps53
  have B0 := bel_alloc1 w (.cells #[.int .i64 3, .int .i64 0, .string ⟨#[]⟩, .slice (some ⟨b, o, none⟩) n cap] 54)
  have V0 := Lib.hid (Blk.new w #[.int .i64 3, .int .i64 0, .string ⟨#[]⟩, .slice (some ⟨b, o, none⟩) n cap] 54)
  have HB0 := Lib.hid B0
  go_wp2_with (first
    | (go_at_call 64; refine (wf_list l b o n cap _ hn hm (Nat.lt_of_lt_of_le hb HB0.out.size) (Lib.hid (hl.out.below HB0.out hb))).mono ?_; rintro e u1 ⟨rfl, hb1⟩; have V1 := V0.out.below hb1 V0.out.lt; have f0 := V1.cell 0; have f1 := V1.cell 1; have f2 := V1.cell 2; have f3 := V1.cell 3; have HB1 := Lib.hid (bel_trans HB0.out hb1))
    | (go_at_call 65; refine (depth_list l b o n cap _ hn hm (Nat.lt_of_lt_of_le hb HB1.out.size) (Lib.hid (hl.out.below HB1.out hb))).mono ?_; rintro e u2 ⟨rfl, hb2⟩))
  go_ret
  exact ⟨rfl, bel_trans HB1.out hb2⟩
end Go.Proofs.YthhlpkppcbillaaGreatDoor
