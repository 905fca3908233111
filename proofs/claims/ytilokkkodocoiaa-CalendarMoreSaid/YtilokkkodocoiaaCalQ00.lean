/- CalendarMore: the walk, no rule, no gap. -/
import Derived.Test.YtilokkkodocoiaaCalRw
import Derived.Test.YtilokkkodocoiaaCalMr
import Derived.Test.YtilokkkodocoiaaCalWit
namespace Go.Proofs.Ytilokkkodocoiaa
open Go.RowKit
set_option linter.unusedVariables false
set_option linter.unusedSimpArgs false
set_option maxRecDepth 100000 in
set_option maxHeartbeats 40000000 in
theorem cmore_00 (p : Option Addr) (n c : Nat) (rs : List Rl) (q : Option Addr) (m d : Nat) (gs : List Gp) (a b av cv : Int) (w : World) (hr : Hid (RulesV w p n c rs)) (hg : Hid (GapsV w q m d gs)) (hE : Hid (momE rs gs a b = 0)) (ha0 : 0 ≤ av) (ha1 : av ≤ 255) (hc0 : 0 ≤ cv) (hc1 : cv ≤ 255) (h0 : n = 0) (hm0 : m = 0) :
    Calls Try.prog 8 #[.slice p n c, .slice q m d, .int .i64 a, .int .i64 b, .int .u8 av, .int .u8 cv] w fun e w' => e = .returned (.bool true) ∧ Below w.heap.size w w' := by
  subst h0
  subst hm0
  have hnc := hr.out.nc
  have hcm := hr.out.cm
  have hmd := hg.out.nc
  have hdm := hg.out.cm
  have hmn : 0 ≤ 2000 := by have := (chk_valid (mom_zero hE.out).1).2.2; have := hg.out.len; omega
  have hnn : 0 ≤ 2000 := by have := (chk_valid (mom_zero hE.out).1).2.1; have := hr.out.len; omega
  have hrl : rs.length ≤ 2000 := by have := (chk_valid (mom_zero hE.out).1).2.1; omega
  have hgl : gs.length ≤ 2000 := by have := (chk_valid (mom_zero hE.out).1).2.2; omega
  go_enter Try.func8, Try.ntmps8
  have B0 := Lib.hid (Below.refl w.heap.size w)
  have R0 := hr
  have G0 := hg
  clear hr hg
  go_upto_region 3 with (go_at_call 9; (with_reducible refine (sane19_any w).mono ?_); rintro e w1 ⟨rfl, hb⟩; have B1 := Lib.hid (bel_trans B0.out hb); have R1 := Lib.hid (R0.out.below hb); have G1 := Lib.hid (G0.out.below hb); clear hb)
  clear R0 G0 B0
  obtain ⟨L, hL⟩ := named (momR rs gs a b)
  have HN : L.length ≤ 2000 := by rw [← hL.out]; exact momR_len
  have d0 : decide ((2000 : Int) < (L.length : Int)) = false := decide_eq_false (by omega)
  go_upto_region 4 with (go_at_call 10; (with_reducible refine (cmom_ah p 0 c rs q 0 d gs a b w1 R1 G1 0 L hE hL).mono ?_); rintro e w2 ⟨v2, rfl, ho, hb⟩; have B2 := Lib.hid (bel_trans B1.out hb); have R2 := Lib.hid (R1.out.below hb); have G2 := Lib.hid (G1.out.below hb); have O2 := ho; clear ho; clear hb)
  clear R1 G1 B1
  obtain ⟨pl, cl, hvl, hl2⟩ := ownI_ints O2
  subst hvl
  have L2 := Lib.hid hl2
  have hcl := hl2.nc
  have hclm := hl2.cm
  clear hl2 O2
  go_wp2_with fail
  go_ret
  exact ⟨rfl, B2.out⟩
end Go.Proofs.Ytilokkkodocoiaa
