/- For all tariffs and numbers, what a crowd costs is the extra of one tier alone: of the last one that it reaches. No condition. -/
import Derived.Test.YticaeecfhfjjeaaTarTiers0
import Derived.BigRegion
import Derived.BigQuiet
import Derived.Deep.DeepCutAuto
namespace Go.Proofs.Yticaeecfhfjjeaa
open Go.ChangeShapes Go.WideShapes Go.ChangeAt Go.RowKit
set_option linter.unusedVariables false
theorem err_zero' {base leg : List Int} {ts : List Tr} {c l m : Int} (h : chkB base leg ts = true) (ha : okA base.length c l m = true) : errE base leg ts c l m = 0 := by
  unfold errE; rw [h, ha]; rfl
theorem ok_mk' {n : Nat} {c l m : Int} (h : 0 ≤ c ∧ c < n ∧ 1 ≤ l ∧ l ≤ 8 ∧ 1 ≤ m ∧ m ≤ 64) : okA n c l m = true := by unfold okA; simpa using h

set_option maxRecDepth 100000 in
set_option maxHeartbeats 40000000 in
theorem tariffTiers_walk (pb : Option Addr) (nb cb : Nat) (pl : Option Addr) (nl cl : Nat) (pt : Option Addr) (nt ct : Nat) (base leg : List Int) (ts : List Tr) (class_ legs crowd : Int) (w : World) (hz : Hid (TarV w pb nb pl nl pt nt base leg ts)) (wf_class_ : (Lit.int .u8 class_).wf = true) (wf_legs : (Lit.int .u8 legs).wf = true) (wf_crowd : (Lit.int .u8 crowd).wf = true) :
    Calls Try.prog 7 #[tarV pb nb cb pl nl cl pt nt ct, .int .u8 class_, .int .u8 legs, .int .u8 crowd] w fun e w' => e = .returned (.bool true) ∧ Below w.heap.size w w' := by
  have bc : 0 ≤ class_ ∧ class_ ≤ 255 := bounds_u8 wf_class_
  have bl : 0 ≤ legs ∧ legs ≤ 255 := bounds_u8 wf_legs
  have bm : 0 ≤ crowd ∧ crowd ≤ 255 := bounds_u8 wf_crowd
  clear wf_class_ wf_legs wf_crowd
  have H1 := Lib.hid hz.out.1.1; have H2 := Lib.hid hz.out.2.1.1; have H3 := Lib.hid hz.out.2.2.1
  have v : Blks (w.alloc (.cells #[.slice pb nb cb, .slice pl nl cl, .slice pt nt ct] 25)) [(w.heap.size, #[.slice pb nb cb, .slice pl nl cl, .slice pt nt ct], 25)] := (Blks.nil w).box _ _
  have V := Lib.hid v; clear v
  go_enter Try.func7, Try.ntmps7
  go_wp2_with fail
  refine (sane_any _).mono ?_; rintro e w1 ⟨rfl, hb⟩
  have h1 := Lib.hid (belB2 (Below.refl _ w) hb)
  have V1 := Lib.hid (V.out.below hb); clear hb
  obtain ⟨c0, c1, c2⟩ := blk3_facts V1.out.1
  have l1 := V1.out.1.lt
  dsimp only at l1
  go_wp2_with fail
  refine (few_any pb nb cb pl nl cl pt nt ct _).mono ?_; rintro e w2 ⟨rfl, hb⟩
  have h2 := Lib.hid (bel_trans h1.out hb)
  have V2 := Lib.hid (V1.out.below hb); clear hb c0 c1 c2 l1
  cases hfew : fewB nb nl nt with
  | false =>
    have HFEW := Lib.hid hfew; clear hfew
    go_wp2_with fail
    go_ret
    exact ⟨rfl, h2.out⟩
  | true =>
  have HFEW := Lib.hid hfew; clear hfew
  obtain ⟨c0, c1, c2⟩ := blk3_facts V2.out.1
  have l1 := V2.out.1.lt
  dsimp only at l1
  go_wp2_with fail
  refine (rcheck_any pb nb cb pl nl cl pt nt ct base leg ts _ (Lib.hid (hz.out.below h2.out))).mono ?_
  rintro e w3 ⟨rfl, hb⟩
  have h3 := Lib.hid (bel_trans h2.out hb)
  have V3 := Lib.hid (V2.out.below hb); clear hb c0 c1 c2 l1
  cases hk : chkB base leg ts with
  | false =>
    have hC : chkE base leg ts = 210 := by unfold chkE; rw [hk]; rfl
    rw [hC]
    clear hC hk
    go_wp2_with fail
    go_ret
    exact ⟨rfl, h3.out⟩
  | true =>
  have hC : chkE base leg ts = 0 := by unfold chkE; rw [hk]; rfl
  rw [hC]
  obtain ⟨⟨a, b, c, d⟩, e, f, g⟩ := chk_parts hk
  obtain ⟨L, hL, hL0, hL1⟩ : ∃ L : Nat, 1 + legs % 8 = L ∧ 1 ≤ L ∧ L ≤ 8 := ⟨(1 + legs % 8).toNat, by omega, by omega, by omega⟩
  obtain ⟨m, hm, hm0, hm1⟩ : ∃ m : Int, 1 + crowd % 64 = m ∧ 1 ≤ m ∧ m ≤ 64 := ⟨_, rfl, by omega, by omega⟩
  have hnb : 1 ≤ nb := by have := H1.out; omega
  obtain ⟨k, hkk, hk1⟩ : ∃ k : Nat, class_ % (nb : Int) = k ∧ k < nb := by
    have h1 := Int.emod_nonneg class_ (b := (nb : Int)) (by omega)
    have h2 := Int.emod_lt_of_pos class_ (b := (nb : Int)) (by omega)
    exact ⟨(class_ % (nb : Int)).toNat, by omega, by omega⟩
  have hk2 : k < nl := by have := H1.out; have := H2.out; omega
  obtain ⟨x, hx⟩ : ∃ x, leg.getD k 0 = x := ⟨_, rfl⟩
  obtain ⟨y, hy⟩ : ∃ x, base.getD k 0 = x := ⟨_, rfl⟩
  have bx : 0 ≤ x ∧ x ≤ 1048576 := by rw [← hx]; exact all_at f (by have := H2.out; omega)
  have by' : 0 ≤ y ∧ y ≤ 1048576 := by rw [← hy]; exact all_at e (by have := H1.out; omega)
  obtain ⟨r, hr⟩ : ∃ r, extraF m ts = r := ⟨_, rfl⟩
  have br : 0 ≤ r ∧ r ≤ 1048576 := by rw [← hr]; exact extra_bd g m
  obtain ⟨x0, x1⟩ := bx; obtain ⟨y0, y1⟩ := by'; obtain ⟨r0, r1⟩ := br
  have E1 := Lib.hid (err_zero' (c := k) (l := (L : Nat)) (m := m) hk (ok_mk' ⟨by omega, by rw [← H1.out]; omega, by omega, by omega, hm0, hm1⟩))
  have hnt : nt ≤ 16 := by have := H3.out; omega
  have HX := Lib.hid hx; have HY := Lib.hid hy; have HR := Lib.hid hr; have HL := Lib.hid hL; have HM := Lib.hid hm; have HKK := Lib.hid hkk; have HG := Lib.hid g
  have m1 := hz.out.1.2.1; have m2 := hz.out.2.1.2.1
  clear hx hy hr hL hm hkk a b c d e f g hk hC
  obtain ⟨c0, c1, c2⟩ := blk3_facts V3.out.1
  have l1 := V3.out.1.lt
  dsimp only at l1
  go_wp2_with fail
  rw [HKK.out, HL.out, HM.out]
  have P1 := Lib.hid (show priceZ base leg ts (k : Int) (L : Int) m = (L : Int) * x + (y + r) by unfold priceZ; rw [if_pos E1.out, Int.toNat_natCast, HX.out, HY.out, HR.out])
  refine (price_c pb nb cb pl nl cl pt nt ct base leg ts k L m _ 0 _ (Lib.hid (hz.out.below h3.out)) P1.out E1.out).mono ?_
  rintro e w4 ⟨rfl, hb⟩
  have h4 := Lib.hid (bel_trans h3.out hb)
  have V4 := Lib.hid (V3.out.below hb); clear hb c0 c1 c2 l1
  clear bc bl bm
  obtain ⟨b1, o1, hp1, hb1, q1⟩ := (hz.out.1.below h4.out).at hk1
  obtain ⟨b2, o2, hp2, hb2, q2⟩ := (hz.out.2.1.below h4.out).at hk2
  rw [HY.out] at q1; rw [HX.out] at q2
  subst hp1 hp2
  obtain ⟨c0, c1, c2⟩ := blk3_facts V4.out.1
  have l1 := V4.out.1.lt
  dsimp only at l1
  go_upto_region 7 with fail
  go_cut [14] (fun s14 wx => ∃ bo d1 d2, s14 = .pointer (some ⟨bo, 0, none⟩) ∧ Hid (One w4 wx bo d1 d2 y x none 0 0))
  case first =>
    go_region
    all_goals
      go_wp2_with fail
      go_meet
      with_reducible first
        | exact ⟨_, _, _, rfl, Lib.hid one_0⟩
        | exact ⟨_, _, _, rfl, Lib.hid one_1⟩
        | exact ⟨_, _, _, rfl, Lib.hid one_2⟩
        | exact ⟨_, _, _, rfl, Lib.hid one_3⟩
        | exact ⟨_, _, _, rfl, Lib.hid one_4⟩
        | exact ⟨_, _, _, rfl, Lib.hid one_5⟩
  case rest =>
  obtain ⟨bo, d1, d2, rfl, HO⟩ := hcut
  have HQ1 := Lib.hid q1
  clear q1 q2 c0 c1 c2 l1
  have hsz := HO.out.1.size
  obtain ⟨c0, c1, c2⟩ := blk3_facts (V4.out.below HO.out.1).1
  have l1 := (V4.out.below HO.out.1).1.lt
  dsimp only at l1
  go_wp2_with fail
  clear c0 c1 c2 l1 hsz
  go_loopw [15, 71] (fun e i wr => ∃ (j : Nat) (v : Int) (g : Option Tr) (q : Option Addr) (mq cq : Nat), j ≤ nt ∧ i = .int .i64 j ∧ e = .int .i64 v ∧ Hid (v = exG g) ∧ Hid (Pick m ts j g) ∧ Hid (TiersV wr q mq g.toList) ∧ Hid (One w4 wr bo d1 d2 y x q mq cq)) (fun _ i _ => nt - (intOf i).toNat)
  case atStart => exact ⟨0, 0, none, none, 0, 0, by omega, rfl, rfl, Lib.hid rfl, Lib.hid (pick_0 m ts), Lib.hid (tiersNone _ _), HO⟩
  case round =>
    obtain ⟨j, v, g, q, mq, cq, hj, rfl, rfl, hv, hP, hT, hO⟩ := hrel
    have h5 := Lib.hid (bel_trans h4.out hO.out.1)
    obtain ⟨c0, c1, c2⟩ := blk3_facts (V4.out.below hO.out.1).1
    have l1 := (V4.out.below hO.out.1).1.lt
    dsimp only at l1
    by_cases hlt : j < nt
    · obtain ⟨b3, o3, hp, hb', hc1, hc2⟩ := (hz.out.2.2.below h5.out).at hlt
      have hbd := hz.out.2.2.bd hlt
      subst hp
      obtain ⟨F, hF⟩ : ∃ x, (ts.getD j (0, 0)).1 = x := ⟨_, rfl⟩
      obtain ⟨X, hX⟩ : ∃ x, (ts.getD j (0, 0)).2 = x := ⟨_, rfl⟩
      have hpair : ts.getD j (0, 0) = (F, X) := by rw [← hF, ← hX]
      rw [hF] at hc1 hbd; rw [hX] at hc2 hbd
      have HP := Lib.hid hpair; have HF := Lib.hid hF; have HBD := Lib.hid hbd
      clear hF hX hpair hbd
      obtain ⟨g0, g1, g2⟩ := blk3_facts hO.out.2.2.2.2.1
      have gf := hO.out.2.2.2.2.1.frozen 2
      have l2 := hO.out.2.2.2.2.1.lt
      by_cases hf : F ≤ m
      · have HPY : Hid (Pick m ts (j + 1) (some (F, X))) := Lib.hid (by
          have h := pick_yes (m := m) (ts := ts) (k := j) (by rw [← H3.out]; exact hlt) (by rw [HF.out]; exact hf)
          rw [HP.out] at h; exact h)
        by_cases hlast : j + 1 = nt
        · have hq : ((j : Int) == (nt : Int) - 1) = true := by simp; omega
          have hi1 : (1 : Int) ≤ nt := by omega
          have hi2 : (nt : Int) ≤ 16 := by omega
          clear hlast
          go_wp2_with fail
          go_region
          all_goals
            go_wp2_with fail
            go_roundw
            case rel => exact ⟨j + 1, X, some (F, X), _, 1, 1, by omega, by go_num, rfl, Lib.hid rfl, HPY, (one_put hO.out HBD.out.1 HBD.out.2).1, (one_put hO.out HBD.out.1 HBD.out.2).2⟩
            case measure => simp [intOf]; omega
        · have hlt2 : j + 1 < nt := by omega
          obtain ⟨b4, o4, hp4, hb4, hc3, hc4⟩ := (hz.out.2.2.below h5.out).at hlt2
          cases hp4
          obtain ⟨G, hG⟩ : ∃ x, (ts.getD (j + 1) (0, 0)).1 = x := ⟨_, rfl⟩
          rw [hG] at hc3
          have HGG := Lib.hid hG
          clear hG hc4
          have hq : ((j : Int) == (nt : Int) - 1) = false := by simp; omega
          have hi1 : (1 : Int) ≤ nt := by omega
          have hi2 : (nt : Int) ≤ 16 := by omega
          have hi3 : ¬ (j : Int) = (nt : Int) - 1 := by omega
          have e1 : IntKind.i64.wrap ((j : Int) + 1) = ((j + 1 : Nat) : Int) := (IntWalk.i64_in _ (by omega)).trans (by omega)
          clear hlast
          by_cases hn : m < G
          · go_wp2_with fail
            go_region
            all_goals
              go_wp2_with fail
              go_roundw
              case rel => exact ⟨j + 1, X, some (F, X), _, 1, 1, by omega, by go_num, rfl, Lib.hid rfl, HPY, (one_put hO.out HBD.out.1 HBD.out.2).1, (one_put hO.out HBD.out.1 HBD.out.2).2⟩
              case measure => simp [intOf]; omega
          · go_wp2_with fail
            go_roundw
            case rel => exact ⟨j + 1, v, g, q, mq, cq, by omega, by go_num, rfl, hv, Lib.hid (pick_wait hP.out (by rw [← H3.out]; exact hlt2) (by rw [HGG.out]; omega)), Lib.hid (hT.out.below (bel_alloc1 _ _)), Lib.hid (hO.out.below (bel_alloc1 _ _))⟩
            case measure => simp [intOf]; omega
      · go_wp2_with fail
        go_roundw
        case rel => exact ⟨j + 1, v, g, q, mq, cq, by omega, by go_num, rfl, hv, Lib.hid (pick_no hP.out (by rw [← H3.out]; exact hlt) (by rw [HF.out]; omega)), Lib.hid (hT.out.below (bel_alloc1 _ _)), Lib.hid (hO.out.below (bel_alloc1 _ _))⟩
        case measure => simp [intOf]; omega
    · obtain rfl : nt = j := by omega
      have hpe : Pick m ts ts.length g := by rw [← H3.out]; exact hP.out
      have hvr : r = v := by rw [hv.out, ← pick_end hpe]; exact HR.out.symm
      subst hvr
      have E2 := Lib.hid (err_zero' (c := 0) (l := (L : Nat)) (m := m) (chk_one HG.out hP.out x0 x1 y0 y1) (ok_mk' ⟨by omega, by simp, by omega, by omega, hm0, hm1⟩))
      have P2 := Lib.hid (show priceZ [y] [x] g.toList 0 (L : Int) m = (L : Int) * x + (y + r) by
        unfold priceZ; rw [if_pos E2.out, pick_one hP.out, ← hv.out]; rfl)
      have R1 := Lib.hid (show restZ base leg ts (k : Int) (L : Int) m = y + r by unfold restZ; rw [if_pos E1.out, Int.toNat_natCast, HY.out, HR.out])
      obtain ⟨g0, g1, g2⟩ := blk3_facts hO.out.2.2.2.2.1
      have l2 := hO.out.2.2.2.2.1.lt
      have HTV := Lib.hid (show TarV wr (some ⟨d1, 0, none⟩) 1 (some ⟨d2, 0, none⟩) 1 q mq [y] [x] g.toList from ⟨ints1 hO.out.2.2.2.2.2.1 ⟨by omega, by omega⟩, ints1 hO.out.2.2.2.2.2.2 ⟨by omega, by omega⟩, hT.out⟩)
      clear hv hpe
      go_wp2_with fail
      refine (price_c (some ⟨d1, 0, none⟩) 1 1 (some ⟨d2, 0, none⟩) 1 1 q mq cq [y] [x] g.toList 0 L m _ 0 _ HTV P2.out E2.out).mono ?_
      rintro e w5 ⟨rfl, hb⟩
      have HB5 := Lib.hid (bel_trans hO.out.1 hb); clear hb c0 c1 c2 l1 g0 g1 g2 l2
      have h6 := Lib.hid (bel_trans h4.out HB5.out)
      obtain ⟨c0, c1, c2⟩ := blk3_facts (V4.out.below HB5.out).1
      have l1 := (V4.out.below HB5.out).1.lt
      dsimp only at l1
      go_wp2_with fail
      refine (shares_any (some ⟨b1, o1, none⟩) nb cb (some ⟨b2, o2, none⟩) nl cl pt nt ct base leg ts k L m _ (Lib.hid (hz.out.below h6.out))).mono ?_
      rintro e w6 ⟨u, rfl, ho2, hb⟩
      rw [R1.out, E1.out]
      have HB6 := Lib.hid (bel_trans HB5.out hb); clear hb ho2 c0 c1 c2 l1
      have h7 := Lib.hid (bel_trans h4.out HB6.out)
      obtain ⟨c0, c1, c2⟩ := blk3_facts (V4.out.below HB6.out).1
      have l1 := (V4.out.below HB6.out).1.lt
      dsimp only at l1
      have q1 := (HB6.out.cell (p := ⟨b1, o1 + k, none⟩) hb1).trans HQ1.out
      have e2 : IntKind.i64.wrap (y + r) = y + r := IntWalk.i64_in _ (by omega)
      go_wp2_with fail
      go_ret
      exact ⟨rfl, h7.out⟩

namespace tariffTiers
theorem readable : ∀ t ∈ Try.f7.params.toList, Try.prog.readableRec t = true ∧ t < Try.prog.types.size := by
  rw [Try.params7]
  intro t ht
  simp only [List.mem_cons, List.not_mem_nil, or_false] at ht
  rcases ht with rfl | rfl | rfl | rfl
  all_goals exact ⟨by kernel_rfl, by decide +kernel⟩

set_option maxRecDepth 100000 in
theorem lifted (os : Os) (started : os.Started) (H : Type) (enc : TypeId × Value → H) :
    ReturnsInHanded {} Try.checked os 7 .any (Rows.tariffTiersSpec.pre6 enc Try.prog Try.f7 Rows.tariffTiersRow.domain false) (Rows.tariffTiersSpec.post enc Try.prog Try.f7 false true false false) := by
  refine returnsInHanded_of_change (C := Try.checked) own_knob started (by kernel_rfl) Try.func7
    (ChangeSpec.witness6 (enc := enc) (C := Try.checked) false ⟨#[], #[.agg #[.slice none 0 0, .slice none 0 0, .slice none 0 0], .int .u8 0, .int .u8 0, .int .u8 0], []⟩ 8 (by kernel_rfl) (by kernel_rfl) (by kernel_rfl) (by kernel_rfl)) ?_
  intro W base args ds gs before hval0 hW hcnd _
  have hval : ∀ (j : Nat) t v, Try.f7.params[j]? = some t → args[j]? = some v → Value.okWide Try.prog W .any base t v := hval0
  have hW' := hW
  obtain ⟨p, q, hA0, hV, rfl, hfz, hnd⟩ := hW
  have hA : DataW.TrodAll enc Try.prog W 0 (fun _ => true) true Try.f7.params.toList args.toList ds p := hA0
  rw [Try.params7] at hA hval
  obtain ⟨v0, vs0, d0, ds0, p0, q0, hargs, rfl, rfl, h0, r0⟩ := trodAll_cons hA
  obtain ⟨v1, vs1, d1, ds1, p1, q1, rfl, rfl, rfl, h1, r1⟩ := trodAll_cons r0
  obtain ⟨v2, vs2, d2, ds2, p2, q2, rfl, rfl, rfl, h2, r2⟩ := trodAll_cons r1
  obtain ⟨v3, vs3, d3, ds3, p3, q3, rfl, rfl, rfl, h3, r3⟩ := trodAll_cons r2
  obtain ⟨rfl, rfl, rfl⟩ := trodAll_nil r3
  obtain rfl : args = #[v0, v1, v2, v3] := by cases args; simp_all
  obtain ⟨rfl, rfl⟩ := trodVars_none hV
  obtain ⟨pb, nb, cb, pl, nl, cl, pt, nt, ct, bs, lg, ts, rfl, ht⟩ := open_tar (hval 0 25 v0 rfl rfl) h0
  obtain ⟨a1, rfl, rfl, rfl, w1⟩ := open_int Try.underlying5 (hval 1 5 v1 rfl rfl) h1
  obtain ⟨a2, rfl, rfl, rfl, w2⟩ := open_int Try.underlying5 (hval 2 5 v2 rfl rfl) h2
  obtain ⟨a3, rfl, rfl, rfl, w3⟩ := open_int Try.underlying5 (hval 3 5 v3 rfl rfl) h3
  clear hA0 hval0
  refine (tariffTiers_walk pb nb cb pl nl cl pt nt ct bs lg ts a1 a2 a3 W (Lib.hid ht) w1 w2 w3).mono fun e W' ⟨he, hb⟩ => ?_
  subst he
  exact ⟨_, rfl, law_post laid_out readable rfl rfl Try.underlying4 hW' rfl rfl rfl hb⟩

theorem over : Rows.tariffTiersRow.holds Try.pinned (OpenSpec.ofChange Rows.tariffTiersSpec) :=
  OpenClaim.holds_of_wide 7 Try.f7 rfl rfl rfl rfl rfl rfl rfl ⟨rfl, rfl, rfl, rfl, rfl⟩ rfl rfl rfl rfl rfl (by kernel_rfl) Try.func7 (by kernel_rfl)
    (of_decide_eq_true (by kernel_rfl)) (by unfold Func.isWrapper; first | (rw [if_pos (by decide +kernel)]; kernel_rfl) | (rw [if_neg (by decide +kernel)]; exact ⟨rfl, rfl⟩))
    (fun os started H enc _ => lifted os started H enc)

/-- the statement -/
theorem proved : Rows.TariffTiersSaid := over
end tariffTiers
end Go.Proofs.Yticaeecfhfjjeaa
