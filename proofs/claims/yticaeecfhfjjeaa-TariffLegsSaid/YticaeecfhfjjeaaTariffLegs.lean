/- For all tariffs and numbers, a leg more costs what a leg of the class costs; without tiers, a letter costs the base and its legs. No condition. -/
import Derived.Test.YticaeecfhfjjeaaTarLaw3
import Derived.BigRegion
namespace Go.Proofs.Yticaeecfhfjjeaa
open Go.ChangeShapes Go.WideShapes Go.ChangeAt Go.RowKit
set_option linter.unusedVariables false

theorem chk_bare {base leg : List Int} {ts : List Tr} (h : chkB base leg ts = true) : chkB base leg [] = true := by
  obtain ⟨⟨a, b, c, d⟩, e, f, g⟩ := chk_parts h
  unfold chkB
  rw [e, f, show tiersB [] = true from rfl]
  unfold lensB; simp; omega
theorem err_zero {base leg : List Int} {ts : List Tr} {c l m : Int} (h : chkB base leg ts = true) (ha : okA base.length c l m = true) : errE base leg ts c l m = 0 := by
  unfold errE; rw [h, ha]; rfl
theorem ok_mk {n : Nat} {c l m : Int} (h : 0 ≤ c ∧ c < n ∧ 1 ≤ l ∧ l ≤ 8 ∧ 1 ≤ m ∧ m ≤ 64) : okA n c l m = true := by unfold okA; simpa using h

set_option maxRecDepth 100000 in
set_option maxHeartbeats 4000000 in
theorem tariffLegs_walk (pb : Option Addr) (nb cb : Nat) (pl : Option Addr) (nl cl : Nat) (pt : Option Addr) (nt ct : Nat) (base leg : List Int) (ts : List Tr) (class_ legs crowd other : Int) (w : World) (hz : Hid (TarV w pb nb pl nl pt nt base leg ts)) (wf_class_ : (Lit.int .u8 class_).wf = true) (wf_legs : (Lit.int .u8 legs).wf = true) (wf_crowd : (Lit.int .u8 crowd).wf = true) (wf_other : (Lit.int .u8 other).wf = true) :
    Calls Try.prog 6 #[tarV pb nb cb pl nl cl pt nt ct, .int .u8 class_, .int .u8 legs, .int .u8 crowd, .int .u8 other] w fun e w' => e = .returned (.bool true) ∧ Below w.heap.size w w' := by
  have bc : 0 ≤ class_ ∧ class_ ≤ 255 := bounds_u8 wf_class_
  have bl : 0 ≤ legs ∧ legs ≤ 255 := bounds_u8 wf_legs
  have bm : 0 ≤ crowd ∧ crowd ≤ 255 := bounds_u8 wf_crowd
  have bo : 0 ≤ other ∧ other ≤ 255 := bounds_u8 wf_other
  clear wf_class_ wf_legs wf_crowd wf_other
  have H1 := Lib.hid hz.out.1.1; have H2 := Lib.hid hz.out.2.1.1
  have v : Blks (w.alloc (.cells #[.slice pb nb cb, .slice pl nl cl, .slice pt nt ct] 25)) [(w.heap.size, #[.slice pb nb cb, .slice pl nl cl, .slice pt nt ct], 25)] := (Blks.nil w).box _ _
  have V := Lib.hid v; clear v
  go_enter Try.func6, Try.ntmps6
  go_wp2_with fail
  refine (sane_any _).mono ?_; rintro e w1 ⟨rfl, hb⟩
  have h1 := Lib.hid (belB2 (Below.refl _ w) hb)
  have V1 := Lib.hid (V.out.below hb); clear hb
  obtain ⟨c0, c1, c2⟩ := blk3_facts V1.out.1
  have l1 := V1.out.1.lt
  dsimp only at l1
  go_wp2_with fail
  refine (few_any pb nb cb pl nl cl pt nt ct _).mono ?_; rintro e w2 ⟨rfl, hb⟩
  have h2 := Lib.hid (bel_trans h1.out hb)
  have V2 := Lib.hid (V1.out.below hb); clear hb c0 c1 c2 l1
  cases hfew : fewB nb nl nt with
  | false =>
    have HFEW := Lib.hid hfew; clear hfew
    go_wp2_with fail
    go_ret
    exact ⟨rfl, h2.out⟩
  | true =>
  have HFEW := Lib.hid hfew; clear hfew
  obtain ⟨c0, c1, c2⟩ := blk3_facts V2.out.1
  have l1 := V2.out.1.lt
  dsimp only at l1
  go_wp2_with fail
  refine (rcheck_any pb nb cb pl nl cl pt nt ct base leg ts _ (Lib.hid (hz.out.below h2.out))).mono ?_
  rintro e w3 ⟨rfl, hb⟩
  have h3 := Lib.hid (bel_trans h2.out hb)
  have V3 := Lib.hid (V2.out.below hb); clear hb c0 c1 c2 l1
  cases hk : chkB base leg ts with
  | false =>
    have hC : chkE base leg ts = 210 := by unfold chkE; rw [hk]; rfl
    rw [hC]
    clear hC hk
    go_wp2_with fail
    go_ret
    exact ⟨rfl, h3.out⟩
  | true =>
  have hC : chkE base leg ts = 0 := by unfold chkE; rw [hk]; rfl
  rw [hC]
  obtain ⟨⟨a, b, c, d⟩, e, f, g⟩ := chk_parts hk
  obtain ⟨L, hL, hL0, hL1⟩ : ∃ L : Nat, 1 + legs % 7 = L ∧ 1 ≤ L ∧ L ≤ 7 := ⟨(1 + legs % 7).toNat, by omega, by omega, by omega⟩
  obtain ⟨m, hm, hm0, hm1⟩ : ∃ m : Int, 1 + crowd % 64 = m ∧ 1 ≤ m ∧ m ≤ 64 := ⟨_, rfl, by omega, by omega⟩
  obtain ⟨o, ho, ho0, ho1⟩ : ∃ m : Int, 1 + other % 64 = m ∧ 1 ≤ m ∧ m ≤ 64 := ⟨_, rfl, by omega, by omega⟩
  have hnb : 1 ≤ nb := by have := H1.out; omega
  obtain ⟨k, hkk, hk1⟩ : ∃ k : Nat, class_ % (nb : Int) = k ∧ k < nb := by
    have h1 := Int.emod_nonneg class_ (b := (nb : Int)) (by omega)
    have h2 := Int.emod_lt_of_pos class_ (b := (nb : Int)) (by omega)
    exact ⟨(class_ % (nb : Int)).toNat, by omega, by omega⟩
  have hk2 : k < nl := by have := H1.out; have := H2.out; omega
  obtain ⟨x, hx⟩ : ∃ x, leg.getD k 0 = x := ⟨_, rfl⟩
  obtain ⟨y, hy⟩ : ∃ x, base.getD k 0 = x := ⟨_, rfl⟩
  have bx : 0 ≤ x ∧ x ≤ 1048576 := by rw [← hx]; exact all_at f (by have := H2.out; omega)
  have by' : 0 ≤ y ∧ y ≤ 1048576 := by rw [← hy]; exact all_at e (by have := H1.out; omega)
  obtain ⟨r, hr⟩ : ∃ r, extraF m ts = r := ⟨_, rfl⟩
  have br : 0 ≤ r ∧ r ≤ 1048576 := by rw [← hr]; exact extra_bd g m
  obtain ⟨x0, x1⟩ := bx; obtain ⟨y0, y1⟩ := by'; obtain ⟨r0, r1⟩ := br
  have E1 := Lib.hid (err_zero (c := k) (l := (L : Nat)) (m := m) hk (ok_mk ⟨by omega, by rw [← H1.out]; omega, by omega, by omega, hm0, hm1⟩))
  have E2 := Lib.hid (err_zero (c := k) (l := (L : Int) + 1) (m := m) hk (ok_mk ⟨by omega, by rw [← H1.out]; omega, by omega, by omega, hm0, hm1⟩))
  have E3 := Lib.hid (err_zero (ts := []) (c := k) (l := (L : Nat)) (m := o) (chk_bare hk) (ok_mk ⟨by omega, by rw [← H1.out]; omega, by omega, by omega, ho0, ho1⟩))
  have HX := Lib.hid hx; have HY := Lib.hid hy; have HR := Lib.hid hr; have HL := Lib.hid hL; have HM := Lib.hid hm; have HOO := Lib.hid ho; have HKK := Lib.hid hkk
  obtain ⟨mb0, mb1⟩ := mul_bd (L := L) (by omega) x0 x1
  have A1 := Lib.hid (show (L : Int) * x + (y + r) = (y + (L : Int) * x) + r by omega)
  have A2 := Lib.hid (show ((L : Int) + 1) * x + (y + r) = ((y + (L : Int) * x) + r) + x by rw [Int.add_mul]; omega)
  have A3 := Lib.hid (show (L : Int) * x + (y + 0) = y + (L : Int) * x by omega)
  have m1 := hz.out.1.2.1; have m2 := hz.out.2.1.2.1
  clear hx hy hr hL hm ho hkk a b c d e f g hk hC
  obtain ⟨c0, c1, c2⟩ := blk3_facts V3.out.1
  have l1 := V3.out.1.lt
  dsimp only at l1
  go_wp2_with fail
  rw [HKK.out, HL.out, HM.out, HOO.out]
  have P1 := Lib.hid (show priceZ base leg ts (k : Int) (L : Int) m = y + (L : Int) * x + r by unfold priceZ; rw [if_pos E1.out, Int.toNat_natCast, HX.out, HY.out, HR.out, A1.out])
  have P2 := Lib.hid (show priceZ base leg ts (k : Int) ((L : Int) + 1) m = y + (L : Int) * x + r + x by unfold priceZ; rw [if_pos E2.out, Int.toNat_natCast, HX.out, HY.out, HR.out, A2.out])
  have P3 := Lib.hid (show priceZ base leg [] (k : Int) (L : Int) o = y + (L : Int) * x by unfold priceZ; rw [if_pos E3.out, Int.toNat_natCast, HX.out, HY.out]; exact A3.out)
  refine (price_c pb nb cb pl nl cl pt nt ct base leg ts k L m _ 0 _ (Lib.hid (hz.out.below h3.out)) P1.out E1.out).mono ?_
  rintro e w4 ⟨rfl, hb⟩
  have h4 := Lib.hid (bel_trans h3.out hb)
  have V4 := Lib.hid (V3.out.below hb); clear hb c0 c1 c2 l1
  obtain ⟨c0, c1, c2⟩ := blk3_facts V4.out.1
  have l1 := V4.out.1.lt
  dsimp only at l1
  go_wp2_with fail
  refine (price_c pb nb cb pl nl cl pt nt ct base leg ts k ((L : Int) + 1) m _ 0 _ (Lib.hid (hz.out.below h4.out)) P2.out E2.out).mono ?_
  rintro e w5 ⟨rfl, hb⟩
  have h5 := Lib.hid (bel_trans h4.out hb)
  have V5 := Lib.hid (V4.out.below hb); clear hb c0 c1 c2 l1
  obtain ⟨c0, c1, c2⟩ := blk3_facts V5.out.1
  have l1 := V5.out.1.lt
  dsimp only at l1
  go_wp2_with fail
  have hz6 := (hz.out.below h5.out).below (bel_alloc1 w5 (.cells #[.slice pb nb cb, .slice pl nl cl, .slice none 0 0] 25))
  refine (price_c pb nb cb pl nl cl none 0 0 base leg [] k L o _ 0 _ (Lib.hid ⟨hz6.1, hz6.2.1, ⟨rfl, by omega, by simp, .inl rfl⟩⟩) P3.out E3.out).mono ?_
  rintro e w6 ⟨rfl, hb⟩
  clear hz6
  have h6 := Lib.hid (belB2 h5.out hb)
  have V6 := Lib.hid (V5.out.below2 hb); clear hb c0 c1 c2 l1
  obtain ⟨b1, o1, hp1, hb1, q1⟩ := (hz.out.1.below h6.out).at hk1
  obtain ⟨b2, o2, hp2, hb2, q2⟩ := (hz.out.2.1.below h6.out).at hk2
  rw [HY.out] at q1; rw [HX.out] at q2
  subst hp1 hp2
  obtain ⟨c0, c1, c2⟩ := blk3_facts V6.out.1
  have l1 := V6.out.1.lt
  dsimp only at l1
  have e1 : IntKind.i64.wrap (y + (L : Int) * x + r + x - (y + (L : Int) * x + r)) = x := (IntWalk.i64_in _ (by omega)).trans (by omega)
  have e2 : IntKind.i64.wrap ((L : Int) * x) = (L : Int) * x := IntWalk.i64_in _ (by omega)
  have e3 : IntKind.i64.wrap (y + (L : Int) * x) = y + (L : Int) * x := IntWalk.i64_in _ (by omega)
  go_wp2_with fail
  go_quiet (fail)
  go_wp2_with fail
  go_ret
  exact ⟨rfl, bel_dn h6.out _⟩

namespace tariffLegs
theorem readable : ∀ t ∈ Try.f6.params.toList, Try.prog.readableRec t = true ∧ t < Try.prog.types.size := by
  rw [Try.params6]
  intro t ht
  simp only [List.mem_cons, List.not_mem_nil, or_false] at ht
  rcases ht with rfl | rfl | rfl | rfl | rfl
  all_goals exact ⟨by kernel_rfl, by decide +kernel⟩

set_option maxRecDepth 100000 in
theorem lifted (os : Os) (started : os.Started) (H : Type) (enc : TypeId × Value → H) :
    ReturnsInHanded {} Try.checked os 6 .any (Rows.tariffLegsSpec.pre6 enc Try.prog Try.f6 Rows.tariffLegsRow.domain false) (Rows.tariffLegsSpec.post enc Try.prog Try.f6 false true false false) := by
  refine returnsInHanded_of_change (C := Try.checked) own_knob started (by kernel_rfl) Try.func6
    (ChangeSpec.witness6 (enc := enc) (C := Try.checked) false ⟨#[], #[.agg #[.slice none 0 0, .slice none 0 0, .slice none 0 0], .int .u8 0, .int .u8 0, .int .u8 0, .int .u8 0], []⟩ 8 (by kernel_rfl) (by kernel_rfl) (by kernel_rfl) (by kernel_rfl)) ?_
  intro W base args ds gs before hval0 hW hcnd _
  have hval : ∀ (j : Nat) t v, Try.f6.params[j]? = some t → args[j]? = some v → Value.okWide Try.prog W .any base t v := hval0
  have hW' := hW
  obtain ⟨p, q, hA0, hV, rfl, hfz, hnd⟩ := hW
  have hA : DataW.TrodAll enc Try.prog W 0 (fun _ => true) true Try.f6.params.toList args.toList ds p := hA0
  rw [Try.params6] at hA hval
  obtain ⟨v0, vs0, d0, ds0, p0, q0, hargs, rfl, rfl, h0, r0⟩ := trodAll_cons hA
  obtain ⟨v1, vs1, d1, ds1, p1, q1, rfl, rfl, rfl, h1, r1⟩ := trodAll_cons r0
  obtain ⟨v2, vs2, d2, ds2, p2, q2, rfl, rfl, rfl, h2, r2⟩ := trodAll_cons r1
  obtain ⟨v3, vs3, d3, ds3, p3, q3, rfl, rfl, rfl, h3, r3⟩ := trodAll_cons r2
  obtain ⟨v4, vs4, d4, ds4, p4, q4, rfl, rfl, rfl, h4, r4⟩ := trodAll_cons r3
  obtain ⟨rfl, rfl, rfl⟩ := trodAll_nil r4
  obtain rfl : args = #[v0, v1, v2, v3, v4] := by cases args; simp_all
  obtain ⟨rfl, rfl⟩ := trodVars_none hV
  obtain ⟨pb, nb, cb, pl, nl, cl, pt, nt, ct, bs, lg, ts, rfl, ht⟩ := open_tar (hval 0 25 v0 rfl rfl) h0
  obtain ⟨a1, rfl, rfl, rfl, w1⟩ := open_int Try.underlying5 (hval 1 5 v1 rfl rfl) h1
  obtain ⟨a2, rfl, rfl, rfl, w2⟩ := open_int Try.underlying5 (hval 2 5 v2 rfl rfl) h2
  obtain ⟨a3, rfl, rfl, rfl, w3⟩ := open_int Try.underlying5 (hval 3 5 v3 rfl rfl) h3
  obtain ⟨a4, rfl, rfl, rfl, w4⟩ := open_int Try.underlying5 (hval 4 5 v4 rfl rfl) h4
  clear hA0 hval0
  refine (tariffLegs_walk pb nb cb pl nl cl pt nt ct bs lg ts a1 a2 a3 a4 W (Lib.hid ht) w1 w2 w3 w4).mono fun e W' ⟨he, hb⟩ => ?_
  subst he
  exact ⟨_, rfl, law_post laid_out readable rfl rfl Try.underlying4 hW' rfl rfl rfl hb⟩

theorem over : Rows.tariffLegsRow.holds Try.pinned (OpenSpec.ofChange Rows.tariffLegsSpec) :=
  OpenClaim.holds_of_wide 6 Try.f6 rfl rfl rfl rfl rfl rfl rfl ⟨rfl, rfl, rfl, rfl, rfl⟩ rfl rfl rfl rfl rfl (by kernel_rfl) Try.func6 (by kernel_rfl)
    (of_decide_eq_true (by kernel_rfl)) (by unfold Func.isWrapper; first | (rw [if_pos (by decide +kernel)]; kernel_rfl) | (rw [if_neg (by decide +kernel)]; exact ⟨rfl, rfl⟩))
    (fun os started H enc _ => lifted os started H enc)

/-- the statement -/
theorem proved : Rows.TariffLegsSaid := over
end tariffLegs
end Go.Proofs.Yticaeecfhfjjeaa
