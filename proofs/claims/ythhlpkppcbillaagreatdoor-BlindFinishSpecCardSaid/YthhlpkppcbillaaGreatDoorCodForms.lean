/- The forms of values: codec.forms. -/
import Derived.Test.YthhlpkppcbillaaGreatDoorCod
import Derived.Test.YthhlpkppcbillaaGreatDoorDig0
namespace Go.Proofs.YthhlpkppcbillaaGreatDoor
open Go.RowKit
set_option linter.unusedVariables false
def formsL : List Value := [.nilFunc, .nilFunc, .nilFunc, .nilFunc,
  .func (.func 72) #[] #[], .func (.func 73) #[] #[], .func (.func 74) #[] #[], .func (.func 75) #[] #[],
  .func (.func 76) #[] #[], .func (.func 77) #[] #[], .func (.func 78) #[] #[], .func (.func 79) #[] #[],
  .func (.func 80) #[] #[], .func (.func 81) #[] #[], .func (.func 82) #[] #[], .func (.func 83) #[] #[]]
theorem formsQ1 : (Tryz.prog.info? 81).map (·.size) = some formsL.toArray.size := by kernel_rfl
theorem formsQ2 : formsL.toArray.all (·.oneCell') = true := all_oneCell_toArray (List.all_eq_true.1 (rfl : formsL.all (·.oneCell') = true))
theorem formsZ (w : World) : Blk (w.alloc (.cells #[.nilFunc, .nilFunc, .nilFunc, .nilFunc, .nilFunc, .nilFunc, .nilFunc, .nilFunc, .nilFunc, .nilFunc, .nilFunc, .nilFunc, .nilFunc, .nilFunc, .nilFunc, .nilFunc] 81)) w.heap.size (List.replicate 16 Value.nilFunc).toArray 81 := Blk.new w _ _
set_option maxRecDepth 100000 in
set_option maxHeartbeats 2000000 in
theorem forms_any (w : World) : Calls Tryz.prog 66 #[] w fun e w' => e = .returned (.agg formsL.toArray) ∧ Below w.heap.size w w' := by
  obtain ⟨F, q1, q2, q3, q4, q5, q6⟩ : ∃ F : List Value, (Tryz.prog.info? 81).map (·.size) = some F.toArray.size ∧ F.toArray.all (·.oneCell') = true ∧ (w.alloc (.cells #[.nilFunc, .nilFunc, .nilFunc, .nilFunc, .nilFunc, .nilFunc, .nilFunc, .nilFunc, .nilFunc, .nilFunc, .nilFunc, .nilFunc, .nilFunc, .nilFunc, .nilFunc, .nilFunc] 81)).there w.heap.size 0 F.toArray.size ∧ Hid (Value.agg formsL.toArray = Value.agg F.toArray) ∧ Hid (Blk ((w.alloc (.cells #[.nilFunc, .nilFunc, .nilFunc, .nilFunc, .nilFunc, .nilFunc, .nilFunc, .nilFunc, .nilFunc, .nilFunc, .nilFunc, .nilFunc, .nilFunc, .nilFunc, .nilFunc, .nilFunc] 81)).setCells w.heap.size 0 F.toArray.toList) w.heap.size F.toArray 81) ∧ Hid ((Tryz.prog.info? 81).map (·.size) = some F.length) :=
    ⟨formsL, formsQ1, formsQ2, (formsZ w).there, Lib.hid rfl, Lib.hid ((formsZ w).fill rfl), Lib.hid formsQ1⟩
  rw [q4.out]
  go_enter Tryz.func66, Tryz.ntmps66
  go_wp2_with (refine wpList_store_mid rfl 81 (.tmp 0) (.tmp 4) rfl w.heap.size 0 F.toArray rfl q4.out q3 q1 q2 ?_)
  refine bodyPost_ret (v := .agg F.toArray) (results_cell1 (a := ⟨w.heap.size, 0, none⟩) rfl _ rfl (run_loadVar_mid _ w.heap.size 0 _ F _ q5.out.range Tryz.underlying81 rfl q6.out)) rfl ⟨rfl, setCells_below (Nat.le_refl _) _ _ (bel_alloc1 w _)⟩
end Go.Proofs.YthhlpkppcbillaaGreatDoor
