/- Whether atoms are well formed: codec.wellFormed. -/
import Derived.Test.YthhlpkppcbillaaGreatDoorCodForms
import Derived.Test.YthhlpkppcbillaaGreatDoorCodKnown
import Derived.Deep.RegionHeld3
namespace Go.Proofs.YthhlpkppcbillaaGreatDoor
open Go.RowKit
set_option linter.unusedVariables false
theorem forms_lit (w : World) : Calls Tryz.prog 66 #[] w fun e w' => e = .returned (.agg #[.nilFunc, .nilFunc, .nilFunc, .nilFunc, .func (.func 72) #[] #[], .func (.func 73) #[] #[], .func (.func 74) #[] #[], .func (.func 75) #[] #[], .func (.func 76) #[] #[], .func (.func 77) #[] #[], .func (.func 78) #[] #[], .func (.func 79) #[] #[], .func (.func 80) #[] #[], .func (.func 81) #[] #[], .func (.func 82) #[] #[], .func (.func 83) #[] #[]]) ∧ Below w.heap.size w w' := forms_any w
@[local go_sem] theorem idx_form1 (w : World) : (Instr.index 81 (.agg #[.nilFunc, .nilFunc, .nilFunc, .nilFunc, .func (.func 72) #[] #[], .func (.func 73) #[] #[], .func (.func 74) #[] #[], .func (.func 75) #[] #[], .func (.func 76) #[] #[], .func (.func 77) #[] #[], .func (.func 78) #[] #[], .func (.func 79) #[] #[], .func (.func 80) #[] #[], .func (.func 81) #[] #[], .func (.func 82) #[] #[], .func (.func 83) #[] #[]]) (.int .i64 1)).run Tryz.prog w = .ok (.agg #[.func (.func 72) #[] #[], .func (.func 73) #[] #[], .func (.func 74) #[] #[], .func (.func 75) #[] #[]]) w := by
  have h := Tryz.underlying81
  simp [Instr.index, run_underlying h, asIntOf, go_sem]
@[local go_sem] theorem idx_form2 (w : World) : (Instr.index 81 (.agg #[.nilFunc, .nilFunc, .nilFunc, .nilFunc, .func (.func 72) #[] #[], .func (.func 73) #[] #[], .func (.func 74) #[] #[], .func (.func 75) #[] #[], .func (.func 76) #[] #[], .func (.func 77) #[] #[], .func (.func 78) #[] #[], .func (.func 79) #[] #[], .func (.func 80) #[] #[], .func (.func 81) #[] #[], .func (.func 82) #[] #[], .func (.func 83) #[] #[]]) (.int .i64 2)).run Tryz.prog w = .ok (.agg #[.func (.func 76) #[] #[], .func (.func 77) #[] #[], .func (.func 78) #[] #[], .func (.func 79) #[] #[]]) w := by
  have h := Tryz.underlying81
  simp [Instr.index, run_underlying h, asIntOf, go_sem]
@[local go_sem] theorem idx_form3 (w : World) : (Instr.index 81 (.agg #[.nilFunc, .nilFunc, .nilFunc, .nilFunc, .func (.func 72) #[] #[], .func (.func 73) #[] #[], .func (.func 74) #[] #[], .func (.func 75) #[] #[], .func (.func 76) #[] #[], .func (.func 77) #[] #[], .func (.func 78) #[] #[], .func (.func 79) #[] #[], .func (.func 80) #[] #[], .func (.func 81) #[] #[], .func (.func 82) #[] #[], .func (.func 83) #[] #[]]) (.int .i64 3)).run Tryz.prog w = .ok (.agg #[.func (.func 80) #[] #[], .func (.func 81) #[] #[], .func (.func 82) #[] #[], .func (.func 83) #[] #[]]) w := by
  have h := Tryz.underlying81
  simp [Instr.index, run_underlying h, asIntOf, go_sem]
@[local go_sem] theorem fld_form10 (w : World) : (Instr.field 80 (.agg #[.func (.func 72) #[] #[], .func (.func 73) #[] #[], .func (.func 74) #[] #[], .func (.func 75) #[] #[]]) 0).run Tryz.prog w = .ok (.func (.func 72) #[] #[]) w := by
  have h := Tryz.underlying80
  simp [Instr.field, asAgg, run_underlying h, go_sem]
@[local go_sem] theorem fld_form11 (w : World) : (Instr.field 80 (.agg #[.func (.func 72) #[] #[], .func (.func 73) #[] #[], .func (.func 74) #[] #[], .func (.func 75) #[] #[]]) 1).run Tryz.prog w = .ok (.func (.func 73) #[] #[]) w := by
  have h := Tryz.underlying80
  simp [Instr.field, asAgg, run_underlying h, go_sem]
@[local go_sem] theorem fld_form12 (w : World) : (Instr.field 80 (.agg #[.func (.func 72) #[] #[], .func (.func 73) #[] #[], .func (.func 74) #[] #[], .func (.func 75) #[] #[]]) 2).run Tryz.prog w = .ok (.func (.func 74) #[] #[]) w := by
  have h := Tryz.underlying80
  simp [Instr.field, asAgg, run_underlying h, go_sem]
@[local go_sem] theorem fld_form20 (w : World) : (Instr.field 80 (.agg #[.func (.func 76) #[] #[], .func (.func 77) #[] #[], .func (.func 78) #[] #[], .func (.func 79) #[] #[]]) 0).run Tryz.prog w = .ok (.func (.func 76) #[] #[]) w := by
  have h := Tryz.underlying80
  simp [Instr.field, asAgg, run_underlying h, go_sem]
@[local go_sem] theorem fld_form21 (w : World) : (Instr.field 80 (.agg #[.func (.func 76) #[] #[], .func (.func 77) #[] #[], .func (.func 78) #[] #[], .func (.func 79) #[] #[]]) 1).run Tryz.prog w = .ok (.func (.func 77) #[] #[]) w := by
  have h := Tryz.underlying80
  simp [Instr.field, asAgg, run_underlying h, go_sem]
@[local go_sem] theorem fld_form22 (w : World) : (Instr.field 80 (.agg #[.func (.func 76) #[] #[], .func (.func 77) #[] #[], .func (.func 78) #[] #[], .func (.func 79) #[] #[]]) 2).run Tryz.prog w = .ok (.func (.func 78) #[] #[]) w := by
  have h := Tryz.underlying80
  simp [Instr.field, asAgg, run_underlying h, go_sem]
@[local go_sem] theorem fld_form30 (w : World) : (Instr.field 80 (.agg #[.func (.func 80) #[] #[], .func (.func 81) #[] #[], .func (.func 82) #[] #[], .func (.func 83) #[] #[]]) 0).run Tryz.prog w = .ok (.func (.func 80) #[] #[]) w := by
  have h := Tryz.underlying80
  simp [Instr.field, asAgg, run_underlying h, go_sem]
@[local go_sem] theorem fld_form31 (w : World) : (Instr.field 80 (.agg #[.func (.func 80) #[] #[], .func (.func 81) #[] #[], .func (.func 82) #[] #[], .func (.func 83) #[] #[]]) 1).run Tryz.prog w = .ok (.func (.func 81) #[] #[]) w := by
  have h := Tryz.underlying80
  simp [Instr.field, asAgg, run_underlying h, go_sem]
@[local go_sem] theorem fld_form32 (w : World) : (Instr.field 80 (.agg #[.func (.func 80) #[] #[], .func (.func 81) #[] #[], .func (.func 82) #[] #[], .func (.func 83) #[] #[]]) 2).run Tryz.prog w = .ok (.func (.func 82) #[] #[]) w := by
  have h := Tryz.underlying80
  simp [Instr.field, asAgg, run_underlying h, go_sem]
set_option maxRecDepth 100000 in
set_option maxHeartbeats 2000000 in
theorem wf_int (n : Int) (p : Option Addr) (cap : Nat) (w : World) : Calls Tryz.prog 64 #[.agg #[.int .i64 1, .int .i64 n, .string ⟨#[]⟩, .slice p 0 cap]] w fun e w' => e = .returned (.bool true) ∧ Below w.heap.size w w' := by
  go_enter Tryz.func64, Tryz.ntmps64
  go_wp2_with fail
  obtain ⟨W, hW⟩ : ∃ W, W = w.alloc (.cells #[.int .i64 1, .int .i64 n, .string ⟨#[]⟩, .slice p 0 cap] 54) := ⟨_, rfl⟩
  have hb : Below w.heap.size w W := by rw [hW]; exact bel_alloc1 w _
  have f0 : W.cell? ⟨w.heap.size, 0, none⟩ = some (.int .i64 1) := by rw [hW]; exact ((Blk.new w _ _).cell 0).trans rfl
  have f1 : W.cell? ⟨w.heap.size, 1, none⟩ = some (.int .i64 n) := by rw [hW]; exact ((Blk.new w _ _).cell 1).trans rfl
  have f2 : W.cell? ⟨w.heap.size, 2, none⟩ = some (.string ⟨#[]⟩) := by rw [hW]; exact ((Blk.new w _ _).cell 2).trans rfl
  have f3 : W.cell? ⟨w.heap.size, 3, none⟩ = some (.slice p 0 cap) := by rw [hW]; exact ((Blk.new w _ _).cell 3).trans rfl
  have lw : w.heap.size < W.heap.size := by rw [hW]; simp
  rw [← hW]
  have HB := Lib.hid hb
  have HALL : Hid (∀ w', Below W.heap.size W w' → (Below W.heap.size W w' ∧ w'.cell? ⟨w.heap.size, 0, none⟩ = some (.int .i64 1) ∧ w'.cell? ⟨w.heap.size, 1, none⟩ = some (.int .i64 n) ∧ w'.cell? ⟨w.heap.size, 2, none⟩ = some (.string ⟨#[]⟩) ∧ w'.cell? ⟨w.heap.size, 3, none⟩ = some (.slice p 0 cap))) :=
    Lib.hid fun w' h => ⟨h, (h.cell (p := ⟨w.heap.size, 0, none⟩) lw).trans f0, (h.cell (p := ⟨w.heap.size, 1, none⟩) lw).trans f1, (h.cell (p := ⟨w.heap.size, 2, none⟩) lw).trans f2, (h.cell (p := ⟨w.heap.size, 3, none⟩) lw).trans f3⟩
  have HRF := Lib.hid (Below.refl W.heap.size W)
  clear f0 f1 f2 f3 hb hW
  go_region_held3 (fun w' => (Below W.heap.size W w' ∧ w'.cell? ⟨w.heap.size, 0, none⟩ = some (.int .i64 1) ∧ w'.cell? ⟨w.heap.size, 1, none⟩ = some (.int .i64 n) ∧ w'.cell? ⟨w.heap.size, 2, none⟩ = some (.string ⟨#[]⟩) ∧ w'.cell? ⟨w.heap.size, 3, none⟩ = some (.slice p 0 cap)))
    (first | (exact HALL.out _ HRF.out.drew) | assumption | (exact HALL.out _ (bel_al (And.left (by assumption)) _)) | (exact HALL.out _ (bel_trans (And.left (by assumption)) (by assumption))))
    (first
      | (go_at_call 71; refine (known_yes 1 _ (by decide) (by decide)).mono ?_; rintro e u1 ⟨rfl, rfl⟩)
      | (go_at_call 66; refine (forms_lit _).mono ?_; rintro e u2 ⟨rfl, hbf⟩)
      | (go_at_call 72; refine (cleanInt_any 1 n p cap _).mono ?_; rintro e u3 ⟨rfl, hbc⟩))
  go_wp2_with fail
  go_ret
  refine ⟨rfl, ?_⟩
  exact bel_trans HB.out (And.left (by assumption))
set_option maxRecDepth 100000 in
set_option maxHeartbeats 2000000 in
theorem wf_text (s : ByteArray) (p : Option Addr) (cap : Nat) (w : World) : Calls Tryz.prog 64 #[.agg #[.int .i64 2, .int .i64 0, .string s, .slice p 0 cap]] w fun e w' => e = .returned (.bool true) ∧ Below w.heap.size w w' := by
  go_enter Tryz.func64, Tryz.ntmps64
  go_wp2_with fail
  obtain ⟨W, hW⟩ : ∃ W, W = w.alloc (.cells #[.int .i64 2, .int .i64 0, .string s, .slice p 0 cap] 54) := ⟨_, rfl⟩
  have hb : Below w.heap.size w W := by rw [hW]; exact bel_alloc1 w _
  have f0 : W.cell? ⟨w.heap.size, 0, none⟩ = some (.int .i64 2) := by rw [hW]; exact ((Blk.new w _ _).cell 0).trans rfl
  have f1 : W.cell? ⟨w.heap.size, 1, none⟩ = some (.int .i64 0) := by rw [hW]; exact ((Blk.new w _ _).cell 1).trans rfl
  have f2 : W.cell? ⟨w.heap.size, 2, none⟩ = some (.string s) := by rw [hW]; exact ((Blk.new w _ _).cell 2).trans rfl
  have f3 : W.cell? ⟨w.heap.size, 3, none⟩ = some (.slice p 0 cap) := by rw [hW]; exact ((Blk.new w _ _).cell 3).trans rfl
  have lw : w.heap.size < W.heap.size := by rw [hW]; simp
  rw [← hW]
  have HB := Lib.hid hb
  have HALL : Hid (∀ w', Below W.heap.size W w' → (Below W.heap.size W w' ∧ w'.cell? ⟨w.heap.size, 0, none⟩ = some (.int .i64 2) ∧ w'.cell? ⟨w.heap.size, 1, none⟩ = some (.int .i64 0) ∧ w'.cell? ⟨w.heap.size, 2, none⟩ = some (.string s) ∧ w'.cell? ⟨w.heap.size, 3, none⟩ = some (.slice p 0 cap))) :=
    Lib.hid fun w' h => ⟨h, (h.cell (p := ⟨w.heap.size, 0, none⟩) lw).trans f0, (h.cell (p := ⟨w.heap.size, 1, none⟩) lw).trans f1, (h.cell (p := ⟨w.heap.size, 2, none⟩) lw).trans f2, (h.cell (p := ⟨w.heap.size, 3, none⟩) lw).trans f3⟩
  have HRF := Lib.hid (Below.refl W.heap.size W)
  clear f0 f1 f2 f3 hb hW
  go_region_held3 (fun w' => (Below W.heap.size W w' ∧ w'.cell? ⟨w.heap.size, 0, none⟩ = some (.int .i64 2) ∧ w'.cell? ⟨w.heap.size, 1, none⟩ = some (.int .i64 0) ∧ w'.cell? ⟨w.heap.size, 2, none⟩ = some (.string s) ∧ w'.cell? ⟨w.heap.size, 3, none⟩ = some (.slice p 0 cap)))
    (first | (exact HALL.out _ HRF.out.drew) | assumption | (exact HALL.out _ (bel_al (And.left (by assumption)) _)) | (exact HALL.out _ (bel_trans (And.left (by assumption)) (by assumption))))
    (first
      | (go_at_call 71; refine (known_yes 2 _ (by decide) (by decide)).mono ?_; rintro e u1 ⟨rfl, rfl⟩)
      | (go_at_call 66; refine (forms_lit _).mono ?_; rintro e u2 ⟨rfl, hbf⟩)
      | (go_at_call 76; refine (cleanText_any 2 s p cap _).mono ?_; rintro e u3 ⟨rfl, hbc⟩))
  go_wp2_with fail
  go_ret
  refine ⟨rfl, ?_⟩
  exact bel_trans HB.out (And.left (by assumption))
end Go.Proofs.YthhlpkppcbillaaGreatDoor
