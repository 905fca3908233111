/- CalendarParts: the moments of two parts. No condition. -/
import Derived.Test.YtilokkkodocoiaaCalApp
import Derived.Deep.DeepCutAuto
namespace Go.Proofs.Ytilokkkodocoiaa
open Go.ChangeShapes Go.WideShapes Go.ChangeAt Go.RowKit Go.WideElems
set_option linter.unusedVariables false
set_option linter.unusedSimpArgs false

set_option maxRecDepth 100000 in
set_option maxHeartbeats 4000000 in
theorem calendarParts_walk (p : Option Addr) (n c : Nat) (rs : List Rl) (q : Option Addr) (m d : Nat) (gs : List Gp) (a x b : Int) (w : World) (hr : Hid (RulesV w p n c rs)) (hg : Hid (GapsV w q m d gs)) : Calls Try.prog 6 #[.slice p n c, .slice q m d, .int .i64 a, .int .i64 x, .int .i64 b] w fun e w' => e = .returned (.bool true) ∧ Below w.heap.size w w' := by
  go_enter Try.func6, Try.ntmps6
  have B0 := Lib.hid (Below.refl w.heap.size w)
  have R0 := hr
  have G0 := hg
  clear hr hg
  go_upto_region 3 with (go_at_call 9; (with_reducible refine (sane19_any w).mono ?_); rintro e w1 ⟨rfl, hb⟩; have B1 := Lib.hid (bel_trans B0.out hb); have R1 := Lib.hid (R0.out.below hb); have G1 := Lib.hid (G0.out.below hb); clear hb)
  clear R0 G0 B0
  obtain ⟨E, hE⟩ := named (momE rs gs a b)
  obtain ⟨L, hL⟩ := named (momR rs gs a b)
  have HN : L.length ≤ 2000 := by rw [← hL.out]; exact momR_len
  go_upto_region 4 with (go_at_call 10; (with_reducible refine (cmom_ah p n c rs q m d gs a b w1 R1 G1 E L hE hL).mono ?_); rintro e w2 ⟨v2, rfl, ho, hb⟩; have B2 := Lib.hid (bel_trans B1.out hb); have R2 := Lib.hid (R1.out.below hb); have G2 := Lib.hid (G1.out.below hb); have O2 := ho; clear ho; clear hb)
  clear R1 G1 B1
  obtain ⟨pl, cl, hvl, hl2⟩ := ownI_ints O2
  subst hvl
  have L2 := Lib.hid hl2
  clear hl2 O2
  by_cases hE0 : E = 0
  case neg =>
    have d0 : decide (E = 0) = false := decide_eq_false hE0
    have d1 : (E == 0) = false := by simpa using hE0
    have d2 : (E != 0) = true := by simpa using hE0
    go_wp2_with fail
    go_ret
    exact ⟨rfl, B2.out⟩
  case pos =>
    subst hE0
    by_cases h1 : x < a
    · have d1 : decide (x < a) = true := decide_eq_true h1
      go_wp2_with fail
      go_ret
      exact ⟨rfl, B2.out⟩
    · have d1 : decide (x < a) = false := decide_eq_false h1
      by_cases h2 : b < x
      · have d2 : decide (b < x) = true := decide_eq_true h2
        go_wp2_with fail
        go_ret
        exact ⟨rfl, B2.out⟩
      · have d2 : decide (b < x) = false := decide_eq_false h2
        have hz := mom_zero hE.out
        have hcut := momL_cut (rs := rs) (gs := gs) (a := a) (b := b) (c := x) (by omega) (by omega)
        have hlen : (momL rs gs a x).length + (momL rs gs x b).length ≤ 2000 := by rw [← List.length_append, ← hcut]; exact hz.2.2.2.2.1
        have z1 := mom_ok hz.1 hz.2.1 (show a ≤ x by omega) (by omega) (show (momL rs gs a x).length ≤ 2000 by omega)
        have z2 := mom_ok hz.1 (show 0 ≤ x by omega) (show x ≤ b by omega) (by omega) (show (momL rs gs x b).length ≤ 2000 by omega)
        obtain ⟨KA, hKA⟩ := named (momR rs gs a x)
        obtain ⟨KB, hKB⟩ := named (momR rs gs x b)
        have HC : L = KA ++ KB := by rw [← hL.out, ← hKA.out, ← hKB.out, hz.2.2.2.2.2, momR_ok z1, momR_ok z2]; exact hcut
        have n1 : KA.length + KB.length ≤ 2000 := by rw [← List.length_append, ← HC]; exact HN
        have Z1 := Lib.hid z1
        have Z2 := Lib.hid z2
        have HCC := Lib.hid HC
        clear hz hcut hlen z1 z2 HC
        go_upto_region 7 with (go_at_call 10; (with_reducible refine (cmom_ah p n c rs q m d gs a x w2 R2 G2 0 KA Z1 hKA).mono ?_); rintro e w3 ⟨v3, rfl, ho, hb⟩; have B3 := Lib.hid (bel_trans B2.out hb); have R3 := Lib.hid (R2.out.below hb); have G3 := Lib.hid (G2.out.below hb); have L3 := Lib.hid (L2.out.below hb); have O3 := ho; clear ho; clear hb)
        clear R2 G2 B2 L2
        obtain ⟨pa, ca, hva, ha3⟩ := ownI_intV O3
        subst hva
        have AV3 := Lib.hid ha3
        clear ha3 O3
        go_upto_region 8 with (go_at_call 10; (with_reducible refine (cmom_ah p n c rs q m d gs x b w3 R3 G3 0 KB Z2 hKB).mono ?_); rintro e w4 ⟨v4, rfl, ho, hb⟩; have B4 := Lib.hid (bel_trans B3.out hb); have R4 := Lib.hid (R3.out.below hb); have G4 := Lib.hid (G3.out.below hb); have L4 := Lib.hid (L3.out.below hb); have O4 := ho; have AV4 := Lib.hid (AV3.out.below hb); clear ho; clear hb)
        clear R3 G3 B3 AV3
        obtain ⟨pb, cb, hvb, hb4⟩ := ownI_intV O4
        subst hvb
        have BV4 := Lib.hid hb4
        clear hb4 O4
        have hw4 := B4.out.size
        have hw5 : w4.heap.size ≤ (w4.alloc (.cells #[] 3)).heap.size := by rw [World.size_alloc]; omega
        go_wp2_with (first
          | (at_builtin; refine wpList_live (by go_simp) ?_; refine appI rfl (.tmp 63) (.tmp 64) rfl w4.heap.size (.slice (some ⟨w4.heap.size, 0, none⟩) 0 0) [] rfl (ownI_new _ (Nat.le_refl _)) pa KA.length ca KA rfl (AV4.out.below (bel_alloc1 w4 _)) (by rw [List.length_nil]; omega) hw5 ?_; intro v5 w5 ho hg; have O5 := Lib.hid ho; have B5 := Lib.hid (show Below w4.heap.size w4 w5 from bel_grownI (bel_alloc1 w4 _) (ownI_new _ (Nat.le_refl _)) hg hw5); clear ho hg)
          | (at_builtin; refine wpList_live (by go_simp) ?_; refine appI rfl (.tmp 65) (.tmp 66) rfl w4.heap.size v5 ([] ++ KA) rfl O5.out pb KB.length cb KB rfl (BV4.out.below B5.out) (by rw [List.nil_append]; omega) B5.out.size ?_; intro v6 w6 ho hg; rw [List.nil_append, ← HCC.out] at ho; have O6 := Lib.hid ho; have B6 := Lib.hid (show Below w4.heap.size w4 w6 from bel_grownI B5.out O5.out hg B5.out.size); clear ho hg; obtain ⟨pc, cc, hvc, hc6⟩ := ownI_ints O6.out; subst hvc; have M6 := Lib.hid hc6; clear hc6; have L6 := Lib.hid (L4.out.below B6.out))
          | (go_at_call 14; (with_reducible refine (rsame_is pl pc L.length cl L.length cc L L true w6 L6 M6 (by omega) (by omega) (Lib.hid (by simp))).mono ?_); rintro e w7 ⟨rfl, hb⟩; have B7 := Lib.hid (bel_trans B4.out (B6.out.trans (hb.mono B6.out.size))); clear hb))
        go_ret
        exact ⟨rfl, B7.out⟩

namespace calendarParts
theorem readable : ∀ t ∈ Try.f6.params.toList, Try.prog.readableRec t = true ∧ t < Try.prog.types.size := by
  rw [Try.params6]
  intro t ht
  simp only [List.mem_cons, List.not_mem_nil, or_false] at ht
  rcases ht with rfl | rfl | rfl | rfl | rfl
  all_goals exact ⟨by kernel_rfl, by decide +kernel⟩

set_option maxRecDepth 100000 in
theorem lifted (os : Os) (started : os.Started) (H : Type) (enc : TypeId × Value → H) :
    ReturnsInHanded {} Try.checked os 6 .any (Rows.calendarPartsSpec.pre6 enc Try.prog Try.f6 Rows.calendarPartsRow.domain false) (Rows.calendarPartsSpec.post enc Try.prog Try.f6 false true false false) := by
  refine returnsInHanded_of_change (C := Try.checked) own_knob started (by kernel_rfl) Try.func6
    (ChangeSpec.witness6 (enc := enc) (C := Try.checked) false ⟨#[], #[.slice none 0 0, .slice none 0 0, .int .i64 0, .int .i64 0, .int .i64 0], []⟩ 8 (by kernel_rfl) (by kernel_rfl) (by kernel_rfl) (by kernel_rfl)) ?_
  intro W base args ds gs before hval0 hW hcnd _
  have hval : ∀ (j : Nat) t v, Try.f6.params[j]? = some t → args[j]? = some v → Value.okWide Try.prog W .any base t v := hval0
  have hW' := hW
  obtain ⟨p, q, hA0, hV, rfl, hfz, hnd⟩ := hW
  have hA : DataW.TrodAll enc Try.prog W 0 (fun _ => true) true Try.f6.params.toList args.toList ds p := hA0
  rw [Try.params6] at hA hval
  obtain ⟨v0, vs0, d0, ds0, p0, q0, hargs, rfl, rfl, h0, r0⟩ := trodAll_cons hA
  obtain ⟨v1, vs1, d1, ds1, p1, q1, rfl, rfl, rfl, h1, r1⟩ := trodAll_cons r0
  obtain ⟨v2, vs2, d2, ds2, p2, q2, rfl, rfl, rfl, h2, r2⟩ := trodAll_cons r1
  obtain ⟨v3, vs3, d3, ds3, p3, q3, rfl, rfl, rfl, h3, r3⟩ := trodAll_cons r2
  obtain ⟨v4, vs4, d4, ds4, p4, q4, rfl, rfl, rfl, h4, r4⟩ := trodAll_cons r3
  obtain ⟨rfl, rfl, rfl⟩ := trodAll_nil r4
  obtain rfl : args = #[v0, v1, v2, v3, v4] := by cases args; simp_all
  obtain ⟨rfl, rfl⟩ := trodVars_none hV
  obtain ⟨p0, n0, c0, l0, rfl, hk0⟩ := open_rules (hval 0 22 v0 rfl rfl) h0
  obtain ⟨p1, n1, c1, l1, rfl, hk1⟩ := open_gaps (hval 1 23 v1 rfl rfl) h1
  obtain ⟨a2, rfl, rfl, rfl, w2⟩ := open_int Try.underlying3 (hval 2 3 v2 rfl rfl) h2
  obtain ⟨a3, rfl, rfl, rfl, w3⟩ := open_int Try.underlying3 (hval 3 3 v3 rfl rfl) h3
  obtain ⟨a4, rfl, rfl, rfl, w4⟩ := open_int Try.underlying3 (hval 4 3 v4 rfl rfl) h4
  clear hA0 hval0
  refine (calendarParts_walk p0 n0 c0 l0 p1 n1 c1 l1 a2 a3 a4 _ (Lib.hid hk0) (Lib.hid hk1)).mono fun e W' ⟨he, hb⟩ => ?_
  subst he
  exact ⟨_, rfl, law_post laid_out readable rfl rfl Try.underlying4 hW' rfl rfl rfl hb⟩

theorem over : Rows.calendarPartsRow.holds Try.pinned (OpenSpec.ofChange Rows.calendarPartsSpec) :=
  OpenClaim.holds_of_wide 6 Try.f6 rfl rfl rfl rfl rfl rfl rfl ⟨rfl, rfl, rfl, rfl, rfl⟩ rfl rfl rfl rfl rfl (by kernel_rfl) Try.func6 (by kernel_rfl)
    (of_decide_eq_true (by kernel_rfl)) (by unfold Func.isWrapper; first | (rw [if_pos (by decide +kernel)]; kernel_rfl) | (rw [if_neg (by decide +kernel)]; exact ⟨rfl, rfl⟩))
    (fun os started H enc _ => lifted os started H enc)

/-- the statement -/
theorem proved : Rows.CalendarPartsSaid := over
end calendarParts
end Go.Proofs.Ytilokkkodocoiaa
