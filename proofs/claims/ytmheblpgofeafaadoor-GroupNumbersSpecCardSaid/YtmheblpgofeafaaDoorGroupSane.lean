/- The chapter's examples of layer 9. -/
import Derived.Test.YtmheblpgofeafaaDoorGroupFacts
namespace Go.Proofs.YtmheblpgofeafaaDoor
open Go.RowKit
set_option linter.unusedVariables false

set_option maxRecDepth 100000 in
set_option maxHeartbeats 1000000 in
theorem gsane_any (w : World) : Calls Tryd.prog 29 #[] w fun e w' => e = .returned (.bool true) ∧ Below w.heap.size w w' := by
  go_enter Tryd.func29, Tryd.ntmps29
  go_wp2_with fail
  refine (pow_c 4 2 _ _ _ c_pow1 c_powE).mono ?_; rintro e w1 ⟨rfl, hb1⟩
  go_wp2_with fail
  refine (pow_c 4 1073741789 _ _ _ c_pow2 c_powE).mono ?_; rintro e w2 ⟨rfl, hb2⟩
  have h2 := Lib.hid (bel_trans hb1 hb2); clear hb1 hb2
  go_wp2_with fail
  refine (pow_c 4 (-1) _ _ _ c_pow3 c_powE).mono ?_; rintro e w3 ⟨rfl, hb3⟩
  have h3 := Lib.hid (bel_trans h2.out hb3); clear hb3
  go_wp2_with fail
  refine (pow_c 0 1 _ _ _ c_pow4 c_powE4).mono ?_; rintro e w4 ⟨rfl, hb4⟩
  have h4 := Lib.hid (bel_trans h3.out hb4); clear hb4
  go_wp2_with fail
  refine (mul_c 4 4 _ _ _ c_mul1 c_mulE1).mono ?_; rintro e w5 ⟨rfl, hb5⟩
  have h5 := Lib.hid (bel_trans h4.out hb5); clear hb5
  go_wp2_with fail
  refine (mul_c 4 2 _ _ _ c_mul2 c_mulE2).mono ?_; rintro e w6 ⟨rfl, hb6⟩
  have h6 := Lib.hid (bel_trans h5.out hb6); clear hb6
  go_wp2_with fail
  refine (elm_c 2 _ 0 _ c_elm1 rfl).mono ?_; rintro e w' ⟨rfl, rfl⟩
  go_wp2_with fail
  refine (elm_c 0 0 1 _ rfl rfl).mono ?_; rintro e w' ⟨rfl, rfl⟩
  go_wp2_with fail
  refine (elm_c 1073741790 0 1 _ rfl rfl).mono ?_; rintro e w' ⟨rfl, rfl⟩
  go_wp2_with fail
  refine (num_c 2147483577 _ _ _ c_num1 c_numE1).mono ?_; rintro e w' ⟨rfl, rfl⟩
  go_wp2_with fail
  refine (num_c 2 _ _ _ c_num2 c_numE2).mono ?_; rintro e w' ⟨rfl, rfl⟩
  go_wp2_with fail
  refine (val_c 0 _ _ elB_0).mono ?_; rintro e w' ⟨rfl, rfl⟩
  go_wp2_with fail
  refine (val_c 2147483579 _ _ elB_P).mono ?_; rintro e w' ⟨rfl, rfl⟩
  go_wp2_with fail
  refine (val_c 2 _ _ elB_2).mono ?_; rintro e w' ⟨rfl, rfl⟩
  go_wp2_with fail
  refine (val_c 1 _ _ elB_one).mono ?_; rintro e w' ⟨rfl, rfl⟩
  go_wp2_with fail
  refine (val_c 4 _ _ elB_4).mono ?_; rintro e w' ⟨rfl, rfl⟩
  go_wp2_with fail
  refine (val_c 2147483578 _ _ elB_P1).mono ?_; rintro e w' ⟨rfl, rfl⟩
  go_wp2_with fail
  go_ret
  exact ⟨rfl, h6.out⟩

end Go.Proofs.YtmheblpgofeafaaDoor
