/- How long the encoding of a text is, bounded: codec.sizeText. -/
import Derived.Test.YthhlpkppcbillaaGreatDoorCodSz
import Derived.Deep.RegionHeld3
namespace Go.Proofs.YthhlpkppcbillaaGreatDoor
open Go.RowKit
set_option linter.unusedVariables false
set_option linter.unusedSimpArgs false

set_option maxRecDepth 100000 in
set_option maxHeartbeats 2000000 in
theorem sizeText_any (s : ByteArray) (w : World) (hs : s.size ≤ 1073741824) : Calls Tryz.prog 78 #[.agg #[.int .i64 2, .int .i64 0, .string s, .slice none 0 0]] w fun e w' => (∃ k : Nat, e = .returned (.int .i64 k) ∧ k ≤ 10 + s.size) ∧ Below w.heap.size w w' := by
  go_enter Tryz.func78, Tryz.ntmps78
  go_wp2_with fail
  obtain ⟨W, hW⟩ : ∃ W, W = w.alloc (.cells #[.int .i64 2, .int .i64 0, .string s, .slice none 0 0] 54) := ⟨_, rfl⟩
  have hb : Below w.heap.size w W := by rw [hW]; exact bel_alloc1 w _
  have f0 : W.cell? ⟨w.heap.size, 0, none⟩ = some (.int .i64 2) := by rw [hW]; exact ((Blk.new w _ _).cell 0).trans rfl
  have f1 : W.cell? ⟨w.heap.size, 1, none⟩ = some (.int .i64 0) := by rw [hW]; exact ((Blk.new w _ _).cell 1).trans rfl
  have f2 : W.cell? ⟨w.heap.size, 2, none⟩ = some (.string s) := by rw [hW]; exact ((Blk.new w _ _).cell 2).trans rfl
  have f3 : W.cell? ⟨w.heap.size, 3, none⟩ = some (.slice none 0 0) := by rw [hW]; exact ((Blk.new w _ _).cell 3).trans rfl
  have lw : w.heap.size < W.heap.size := by rw [hW]; simp
  rw [← hW]
  have HB := Lib.hid hb
  have HALL : Hid (∀ w', Below W.heap.size W w' → (Below W.heap.size W w' ∧ w'.cell? ⟨w.heap.size, 0, none⟩ = some (.int .i64 2) ∧ w'.cell? ⟨w.heap.size, 1, none⟩ = some (.int .i64 0) ∧ w'.cell? ⟨w.heap.size, 2, none⟩ = some (.string s) ∧ w'.cell? ⟨w.heap.size, 3, none⟩ = some (.slice none 0 0))) :=
    Lib.hid fun w' h => ⟨h, (h.cell (p := ⟨w.heap.size, 0, none⟩) lw).trans f0, (h.cell (p := ⟨w.heap.size, 1, none⟩) lw).trans f1, (h.cell (p := ⟨w.heap.size, 2, none⟩) lw).trans f2, (h.cell (p := ⟨w.heap.size, 3, none⟩) lw).trans f3⟩
  have HRF := Lib.hid (Below.refl W.heap.size W)
  clear f0 f1 f2 f3 hb hW
  have HW : Hid (IntKind.u64.wrap (s.size : Int) = (s.size : Int)) := Lib.hid (by rw [IntKind.wrap_u64]; omega)
  go_region_held3 (fun w' => (Below W.heap.size W w' ∧ w'.cell? ⟨w.heap.size, 0, none⟩ = some (.int .i64 2) ∧ w'.cell? ⟨w.heap.size, 1, none⟩ = some (.int .i64 0) ∧ w'.cell? ⟨w.heap.size, 2, none⟩ = some (.string s) ∧ w'.cell? ⟨w.heap.size, 3, none⟩ = some (.slice none 0 0)))
    (first | (exact HALL.out _ HRF.out.drew) | assumption | (exact HALL.out _ (bel_al (And.left (by assumption)) _)) | (exact HALL.out _ (bel_trans (And.left (by assumption)) (by assumption))))
    (first
      | (go_at_call 95; rw [HW.out]; refine (sizeNumeral_any s.size _ (by omega)).mono ?_; rintro e u2 ⟨⟨k, rfl, hk⟩, rfl⟩))
  go_wp2_with fail
  go_ret
  have hw2 : IntKind.i64.wrap ((k : Int) + (s.size : Int)) = ((k + s.size : Nat) : Int) := by rw [IntWalk.i64_in _ (by omega)]; omega
  exact ⟨⟨k + s.size, congrArg (fun z => Ending.returned (Value.int IntKind.i64 z)) hw2, by omega⟩, HB.out.trans (Below.mono HRF.out.drew HB.out.size)⟩
end Go.Proofs.YthhlpkppcbillaaGreatDoor
