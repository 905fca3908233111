/- For all tariffs and numbers, the parts of a price and the rest are the price together; none is negative. No condition. -/
import Derived.Test.YticaeecfhfjjeaaTarLaw3
namespace Go.Proofs.Yticaeecfhfjjeaa
open Go.ChangeShapes Go.WideShapes Go.ChangeAt Go.RowKit
set_option linter.unusedVariables false

set_option maxRecDepth 100000 in
set_option maxHeartbeats 4000000 in
theorem tariffSum_walk (pb : Option Addr) (nb cb : Nat) (pl : Option Addr) (nl cl : Nat) (pt : Option Addr) (nt ct : Nat) (base leg : List Int) (ts : List Tr) (class_ legs crowd : Int) (w : World) (hz : Hid (TarV w pb nb pl nl pt nt base leg ts)) (wf_class_ : (Lit.int .i64 class_).wf = true) (wf_legs : (Lit.int .i64 legs).wf = true) (wf_crowd : (Lit.int .i64 crowd).wf = true) :
    Calls Try.prog 5 #[tarV pb nb cb pl nl cl pt nt ct, .int .i64 class_, .int .i64 legs, .int .i64 crowd] w fun e w' => e = .returned (.bool true) ∧ Below w.heap.size w w' := by
  clear wf_class_ wf_crowd
  have bl := bounds_i64 wf_legs; clear wf_legs
  have v : Blks (w.alloc (.cells #[.slice pb nb cb, .slice pl nl cl, .slice pt nt ct] 25)) [(w.heap.size, #[.slice pb nb cb, .slice pl nl cl, .slice pt nt ct], 25)] := (Blks.nil w).box _ _
  have V := Lib.hid v; clear v
  go_enter Try.func5, Try.ntmps5
  go_wp2_with fail
  refine (sane_any _).mono ?_; rintro e w1 ⟨rfl, hb⟩
  have h1 := Lib.hid (belB2 (Below.refl _ w) hb)
  have V1 := Lib.hid (V.out.below hb); clear hb
  obtain ⟨c0, c1, c2⟩ := blk3_facts V1.out.1
  have l1 := V1.out.1.lt
  dsimp only at l1
  go_wp2_with fail
  refine (few_any pb nb cb pl nl cl pt nt ct _).mono ?_; rintro e w2 ⟨rfl, hb⟩
  have h2 := Lib.hid (bel_trans h1.out hb)
  have V2 := Lib.hid (V1.out.below hb); clear hb c0 c1 c2 l1
  cases hfew : fewB nb nl nt with
  | false =>
    have HFEW := Lib.hid hfew; clear hfew
    go_wp2_with fail
    go_ret
    exact ⟨rfl, h2.out⟩
  | true =>
  have HFEW := Lib.hid hfew; clear hfew
  obtain ⟨c0, c1, c2⟩ := blk3_facts V2.out.1
  have l1 := V2.out.1.lt
  dsimp only at l1
  go_wp2_with fail
  refine (priceA_any pb nb cb pl nl cl pt nt ct base leg ts class_ legs crowd _ (Lib.hid (hz.out.below h2.out))).mono ?_
  rintro e w3 ⟨rfl, hb⟩
  have h3 := Lib.hid (bel_trans h2.out hb)
  have V3 := Lib.hid (V2.out.below hb); clear hb c0 c1 c2 l1
  obtain ⟨c0, c1, c2⟩ := blk3_facts V3.out.1
  have l1 := V3.out.1.lt
  dsimp only at l1
  go_wp2_with fail
  refine (shares_any pb nb cb pl nl cl pt nt ct base leg ts class_ legs crowd _ (Lib.hid (hz.out.below h3.out))).mono ?_
  rintro e w4 ⟨u, rfl, ho2, hb⟩
  have h4 := Lib.hid (bel_trans h3.out hb)
  have V4 := Lib.hid (V3.out.below hb); clear hb c0 c1 c2 l1
  by_cases hE : errE base leg ts class_ legs crowd = 0
  case neg =>
    obtain ⟨q1, q2, q3⟩ := parts_no hE
    rw [q2, q3]
    rw [q1] at ho2
    obtain ⟨E, hEE⟩ : ∃ E, errE base leg ts class_ legs crowd = E := ⟨_, rfl⟩
    rw [hEE] at hE ⊢
    have hn : (E != 0) = true := by simp [hE]
    obtain ⟨p, cap, rfl, hp⟩ := ho2.intsV (by simp)
    clear hE hEE q1 q2 q3 ho2 hp
    go_wp2_with fail
    go_ret
    exact ⟨rfl, h4.out⟩
  case pos =>
  obtain ⟨q1, q2, ⟨q3, q4⟩, q5⟩ := parts_ok hE
  rw [hE]
  obtain ⟨R, hR⟩ : ∃ R, restZ base leg ts class_ legs crowd = R := ⟨_, rfl⟩
  obtain ⟨N, hN⟩ : ∃ R, priceZ base leg ts class_ legs crowd = R := ⟨_, rfl⟩
  have hrng := parts_rng (base := base) (leg := leg) (ts := ts) (c := class_) (l := legs) (m := crowd)
  obtain ⟨zs, hzs⟩ : ∃ zs, partsZ base leg ts class_ legs crowd = zs := ⟨_, rfl⟩
  rw [hR, hN]
  rw [hzs] at q1 q2 q5 hrng
  rw [hR] at q3 q4 q5; rw [hN] at q5
  rw [hzs] at ho2
  obtain ⟨p, cap, rfl, hp⟩ := ho2.intsV (fun z hz => ⟨by have := hrng z hz; omega, by have := hrng z hz; omega⟩)
  have HP := Lib.hid hp; have HR := Lib.hid hrng; have Q1 := Lib.hid q1; have Q5 := Lib.hid q5
  obtain ⟨K, hK⟩ : ∃ K, zs.length = K := ⟨_, rfl⟩
  rw [hK] at HP q2 Q1 ⊢
  have HK := Lib.hid hK
  clear hK hp hrng q1 q5 hR hN hzs ho2 hE
  go_wp2_with fail
  go_loop [14, 58] (fun s i => ∃ (k : Nat) (v : Int), k ≤ K ∧ i = .int .i64 k ∧ s = .int .i64 v ∧ Hid (v = R + (zs.take k).sum)) (fun _ i => K - (intOf i).toNat)
  case atStart => exact ⟨0, R, by omega, rfl, rfl, Lib.hid (by simp)⟩
  case round =>
    obtain ⟨k, v, hk, rfl, rfl, hv⟩ := hrel
    have hs := sum_small zs (fun z hz => ⟨(HR.out z hz).1, by have := (HR.out z hz).2; omega⟩) k
    have v0 : 0 ≤ v := by rw [hv.out]; omega
    have v1 : v ≤ 1000000000 := by rw [hv.out]; omega
    clear hs
    by_cases hlt : k < K
    · obtain ⟨b', off, hp, hb', hcell⟩ := HP.out.at hlt
      subst hp
      have hx0 := HR.out _ (getD_mem (d := 0) (zs := zs) (k := k) (by rw [HK.out]; exact hlt))
      have HT := Lib.hid (sum_take zs k (by rw [HK.out]; exact hlt))
      obtain ⟨x, hx⟩ : ∃ x, zs.getD k 0 = x := ⟨_, rfl⟩
      rw [hx] at hcell hx0 HT
      clear hx
      obtain ⟨x0, x1⟩ := hx0
      go_wp2_with fail
      go_round
      case rel => exact ⟨k + 1, v + x, by omega, by go_num, rfl, Lib.hid (by rw [HT.out, hv.out]; omega)⟩
      case measure => simp [intOf]; omega
    · obtain rfl : k = K := by omega
      have hvN : v = N := by rw [hv.out, List.take_of_length_le (by rw [HK.out]; exact Nat.le_refl _)]; exact Q5.out
      subst hvN
      have hkl : legs = (k : Int) := Q1.out.symm
      subst hkl
      go_wp2_with fail
      go_ret
      exact ⟨rfl, h4.out⟩

namespace tariffSum
theorem readable : ∀ t ∈ Try.f5.params.toList, Try.prog.readableRec t = true ∧ t < Try.prog.types.size := by
  rw [Try.params5]
  intro t ht
  simp only [List.mem_cons, List.not_mem_nil, or_false] at ht
  rcases ht with rfl | rfl | rfl | rfl
  all_goals exact ⟨by kernel_rfl, by decide +kernel⟩

set_option maxRecDepth 100000 in
theorem lifted (os : Os) (started : os.Started) (H : Type) (enc : TypeId × Value → H) :
    ReturnsInHanded {} Try.checked os 5 .any (Rows.tariffSumSpec.pre6 enc Try.prog Try.f5 Rows.tariffSumRow.domain false) (Rows.tariffSumSpec.post enc Try.prog Try.f5 false true false false) := by
  refine returnsInHanded_of_change (C := Try.checked) own_knob started (by kernel_rfl) Try.func5
    (ChangeSpec.witness6 (enc := enc) (C := Try.checked) false ⟨#[], #[.agg #[.slice none 0 0, .slice none 0 0, .slice none 0 0], .int .i64 0, .int .i64 0, .int .i64 0], []⟩ 8 (by kernel_rfl) (by kernel_rfl) (by kernel_rfl) (by kernel_rfl)) ?_
  intro W base args ds gs before hval0 hW hcnd _
  have hval : ∀ (j : Nat) t v, Try.f5.params[j]? = some t → args[j]? = some v → Value.okWide Try.prog W .any base t v := hval0
  have hW' := hW
  obtain ⟨p, q, hA0, hV, rfl, hfz, hnd⟩ := hW
  have hA : DataW.TrodAll enc Try.prog W 0 (fun _ => true) true Try.f5.params.toList args.toList ds p := hA0
  rw [Try.params5] at hA hval
  obtain ⟨v0, vs0, d0, ds0, p0, q0, hargs, rfl, rfl, h0, r0⟩ := trodAll_cons hA
  obtain ⟨v1, vs1, d1, ds1, p1, q1, rfl, rfl, rfl, h1, r1⟩ := trodAll_cons r0
  obtain ⟨v2, vs2, d2, ds2, p2, q2, rfl, rfl, rfl, h2, r2⟩ := trodAll_cons r1
  obtain ⟨v3, vs3, d3, ds3, p3, q3, rfl, rfl, rfl, h3, r3⟩ := trodAll_cons r2
  obtain ⟨rfl, rfl, rfl⟩ := trodAll_nil r3
  obtain rfl : args = #[v0, v1, v2, v3] := by cases args; simp_all
  obtain ⟨rfl, rfl⟩ := trodVars_none hV
  obtain ⟨pb, nb, cb, pl, nl, cl, pt, nt, ct, bs, lg, ts, rfl, ht⟩ := open_tar (hval 0 25 v0 rfl rfl) h0
  obtain ⟨a1, rfl, rfl, rfl, w1⟩ := open_int Try.underlying3 (hval 1 3 v1 rfl rfl) h1
  obtain ⟨a2, rfl, rfl, rfl, w2⟩ := open_int Try.underlying3 (hval 2 3 v2 rfl rfl) h2
  obtain ⟨a3, rfl, rfl, rfl, w3⟩ := open_int Try.underlying3 (hval 3 3 v3 rfl rfl) h3
  clear hA0 hval0
  refine (tariffSum_walk pb nb cb pl nl cl pt nt ct bs lg ts a1 a2 a3 W (Lib.hid ht) w1 w2 w3).mono fun e W' ⟨he, hb⟩ => ?_
  subst he
  exact ⟨_, rfl, law_post laid_out readable rfl rfl Try.underlying4 hW' rfl rfl rfl hb⟩

theorem over : Rows.tariffSumRow.holds Try.pinned (OpenSpec.ofChange Rows.tariffSumSpec) :=
  OpenClaim.holds_of_wide 5 Try.f5 rfl rfl rfl rfl rfl rfl rfl ⟨rfl, rfl, rfl, rfl, rfl⟩ rfl rfl rfl rfl rfl (by kernel_rfl) Try.func5 (by kernel_rfl)
    (of_decide_eq_true (by kernel_rfl)) (by unfold Func.isWrapper; first | (rw [if_pos (by decide +kernel)]; kernel_rfl) | (rw [if_neg (by decide +kernel)]; exact ⟨rfl, rfl⟩))
    (fun os started H enc _ => lifted os started H enc)

/-- the statement -/
theorem proved : Rows.TariffSumSaid := over
end tariffSum
end Go.Proofs.Yticaeecfhfjjeaa
