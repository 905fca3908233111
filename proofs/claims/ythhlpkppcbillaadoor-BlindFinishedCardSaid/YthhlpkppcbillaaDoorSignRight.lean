/- For every secret and text, what Sign returns is right for the key of the secret, its numbers are in range, and signing again returns the same. No condition. -/
import Derived.Test.YthhlpkppcbillaaDoorSigLaw
import Derived.Test.YthhlpkppcbillaaDoorSigCard
namespace Go.Proofs.YthhlpkppcbillaaDoor
open Go.ChangeShapes Go.WideShapes Go.ChangeAt Go.RowKit Go.WideElems Go.Shelf
set_option linter.unusedVariables false
set_option linter.unusedSimpArgs false

theorem tx_of {w : World} {p : Option Addr} {m c : Nat} {bs : List Int} (hz : SrcW w p m c bs) (hr : ∀ z ∈ bs, 0 ≤ z ∧ z ≤ 255) (hm : m ≤ 600) : txOk bs := ⟨by have := hz.len; omega, hr⟩
set_option maxRecDepth 100000 in
set_option maxHeartbeats 4000000 in
theorem signRight_walk (x : Int) (p : Option Addr) (m c : Nat) (bs : List Int) (w : World) (hz : Hid (SrcW w p m c bs)) (hr : Hid (∀ z ∈ bs, 0 ≤ z ∧ z ≤ 255)) (hk : Hid (KeysAt w)) :
    Calls Tryd.prog 4 #[.int .i64 x, .slice p m c] w fun e w' => e = .returned (.bool true) ∧ Below w.heap.size w w' := by
  by_cases hm : m ≤ 600
  case neg =>
    go_enter Tryd.func4, Tryd.ntmps4
    go_wp2_with (go_at_call 11; refine (sane_any _ hk).mono ?_; rintro e w1 ⟨rfl, hb⟩)
    go_ret
    exact ⟨rfl, hb⟩
  have HT := Lib.hid (tx_of hz.out hr.out hm)
  by_cases hx : x < 1 ∨ 1073741789 ≤ x
  · have HX := Lib.hid hx
    have heq := eqSig 0 0 0 0
    simp only [BEq.rfl, Bool.and_self] at heq
    rcases hx with hx | hx
    · go_enter Tryd.func4, Tryd.ntmps4
      go_wp2_with (first
        | (go_at_call 11; refine (sane_any _ hk).mono ?_; rintro e w1 ⟨rfl, hb⟩; have B1 := Lib.hid hb; clear hb)
        | (go_at_call 12; refine (sign_no x p m c w1 HX.out).mono ?_; rintro e w2 ⟨rfl, hb⟩; have B2 := Lib.hid (bel_trans B1.out hb); clear hb))
      go_ret
      exact ⟨rfl, B2.out.alloc B2.out.size _⟩
    · have hx1 : ¬ x < 1 := by omega
      go_enter Tryd.func4, Tryd.ntmps4
      go_wp2_with (first
        | (go_at_call 11; refine (sane_any _ hk).mono ?_; rintro e w1 ⟨rfl, hb⟩; have B1 := Lib.hid hb; clear hb)
        | (go_at_call 12; refine (sign_no x p m c w1 HX.out).mono ?_; rintro e w2 ⟨rfl, hb⟩; have B2 := Lib.hid (bel_trans B1.out hb); clear hb))
      go_ret
      exact ⟨rfl, B2.out.alloc B2.out.size _⟩
  have x0 : 1 ≤ x := by omega
  have x1 : x < 1073741789 := by omega
  clear hx
  obtain ⟨e, s, hsig⟩ := isSig x bs
  obtain ⟨⟨e0, e1⟩, ⟨s0, s1⟩⟩ := hsig.rng
  obtain ⟨ky, hky⟩ := isPw 4 x
  have hv := hsig.ver
  rw [hky.eq] at hv
  have HS := Lib.hid hsig; have HV := Lib.hid hv; have HKY := Lib.hid hky
  clear hsig hv hky
  have heq := eqSig e s e s
  simp only [BEq.rfl, Bool.and_self] at heq
  go_enter Tryd.func4, Tryd.ntmps4
  go_upto_region 6 with (first
    | (go_at_call 11; refine (sane_any _ hk).mono ?_; rintro r w1 ⟨rfl, hb⟩; have B1 := Lib.hid hb; clear hb)
    | (go_at_call 12; refine (sign_yes x p m c bs w1 x0 x1 HT (Lib.hid (hz.out.below B1.out)) (Lib.hid (hk.out.below B1.out)) e s HS).mono ?_; rintro r w2 ⟨rfl, hb⟩; have B2 := Lib.hid (bel_trans B1.out hb); clear hb))
  have A3 := Lib.hid (Blk.new w2 #[.int .i64 e, .int .i64 s] 24)
  have B3 := Lib.hid (B2.out.alloc B2.out.size (.cells #[.int .i64 e, .int .i64 s] 24))
  generalize World.alloc w2 _ = W3 at A3 B3 ⊢
  generalize w2.heap.size = b3 at A3 ⊢
  clear B1 B2
  go_upto_region 9 with (go_at_call 12; refine (sign_yes x p m c bs W3 x0 x1 HT (Lib.hid (hz.out.below B3.out)) (Lib.hid (hk.out.below B3.out)) e s HS).mono ?_; rintro r w4 ⟨rfl, hb⟩; have B4 := Lib.hid (bel_trans B3.out hb); have A4 := Lib.hid (A3.out.below hb A3.out.lt); clear hb)
  have A5 := Lib.hid (Blk.new w4 #[.int .i64 e, .int .i64 s] 24)
  have B5 := Lib.hid (B4.out.alloc B4.out.size (.cells #[.int .i64 e, .int .i64 s] 24))
  have A35 := Lib.hid (A4.out.alloc (.cells #[.int .i64 e, .int .i64 s] 24))
  generalize World.alloc w4 _ = W5 at A5 B5 A35 ⊢
  generalize w4.heap.size = b5 at A5 ⊢
  clear B3 B4 A3 A4
  go_wp2_with (first
    | (go_at_call 16; refine (pow_is 4 x ky _ HKY (Lib.hid pe4)).mono ?_; rintro r w6 ⟨rfl, hb⟩; have B6 := Lib.hid (bel_trans B5.out hb); have A36 := A35.out.below hb A35.out.lt; have A56 := A5.out.below hb A5.out.lt; clear hb; have c0 := A36.cell 0; have c1 := A36.cell 1; have d0 := A56.cell 0; have d1 := A56.cell 1)
    | (go_at_call 14; refine (verify_is ky e s p m c bs w6 HT (Lib.hid (hz.out.below B6.out)) (Lib.hid (hk.out.below B6.out)) true HV).mono ?_; rintro r w7 ⟨rfl, hb⟩; have B7 := Lib.hid (bel_trans B6.out hb); clear hb))
  go_ret
  exact ⟨rfl, B7.out⟩

namespace signRight
theorem readable : ∀ t ∈ Tryd.f4.params.toList, Tryd.prog.readableRec t = true ∧ t < Tryd.prog.types.size := by
  rw [Tryd.params4]
  intro t ht
  simp only [List.mem_cons, List.not_mem_nil, or_false] at ht
  rcases ht with rfl | rfl
  all_goals exact ⟨by kernel_rfl, by decide +kernel⟩

set_option maxRecDepth 100000 in
theorem lifted (os : Os) (started : os.Started) (H : Type) (enc : TypeId × Value → H) :
    ReturnsInHanded {} Tryd.checked os 4 .any (fun w args => (Rows.signRightSpec.pre enc Tryd.prog Tryd.f4 [] false w args ∧ laidMetH Tryd.prog laidK w) ∧ sizedMet enc Tryd.prog Tryd.f4 (OpenSpec.ofChange Rows.signRightSpec) false w args)
      (Rows.signRightSpec.post enc Tryd.prog Tryd.f4 false true false false) := by
  refine returnsInHanded_of_change_and (C := Tryd.checked) (X := fun w _ => laidMetH Tryd.prog laidK w) (fun _ _ _ hh h => h.of_heap hh) own_knob started (by kernel_rfl) Tryd.func4
    (ChangeSpec.witness_shaped (enc := enc) (C := Tryd.checked) (os := os) (X := fun w _ => laidMetH Tryd.prog laidK w) false (World.doorLaid Tryd.prog 400 os) #[.int .i64 0, .slice none 0 0] 8 rfl (World.shaped_of_RefB (by kernel_rfl) (by kernel_rfl)) (by kernel_rfl) (by kernel_rfl) (by kernel_rfl) (door_met os _)) ?_
  intro W base args ds gs before hval0 hW _ _ hL _
  have hval : ∀ (j : Nat) t v, Tryd.f4.params[j]? = some t → args[j]? = some v → Value.okWide Tryd.prog W .any base t v := hval0
  have hW' := hW
  obtain ⟨p, q, hA0, hV, rfl, hfz, hnd⟩ := hW
  have hA : DataW.TrodAll enc Tryd.prog W 0 (fun _ => true) true Tryd.f4.params.toList args.toList ds p := hA0
  rw [Tryd.params4] at hA hval
  obtain ⟨v0, vs0, d0, ds0, p0, q0, hargs, rfl, rfl, h0, r0⟩ := trodAll_cons hA
  obtain ⟨v1, vs1, d1, ds1, p1, q1, rfl, rfl, rfl, h1, r1⟩ := trodAll_cons r0
  obtain ⟨rfl, rfl, rfl⟩ := trodAll_nil r1
  obtain rfl : args = #[v0, v1] := by cases args; simp_all
  obtain ⟨rfl, rfl⟩ := trodVars_none hV
  obtain ⟨a0, rfl, rfl, rfl, w0⟩ := open_int Tryd.underlying3 (hval 0 3 v0 rfl rfl) h0
  obtain ⟨s1, n1, c1, z1, rfl, w1, x1, y1, u1⟩ := open_src Tryd.underlying22 Tryd.underlying5 (by kernel_rfl) (hval 1 22 v1 rfl rfl) h1
  have hK := of_laid hL
  clear hA0 hval0
  refine (signRight_walk a0 s1 n1 c1 z1 W (Lib.hid w1) (Lib.hid x1) (Lib.hid hK)).mono fun e W' ⟨he, hb⟩ => ?_
  subst he
  exact ⟨_, rfl, law_post laid_out readable rfl rfl Tryd.underlying4 hW' rfl rfl rfl hb⟩

theorem over : Rows.signRightRow.holds Tryd.pinned (OpenSpec.ofChange Rows.signRightSpec) :=
  OpenClaim.holds_of_wide 4 Tryd.f4 rfl rfl rfl rfl rfl rfl rfl ⟨rfl, rfl, rfl, rfl, rfl⟩ rfl rfl rfl rfl rfl (by kernel_rfl) Tryd.func4 (by kernel_rfl)
    (of_decide_eq_true (by kernel_rfl)) (by unfold Func.isWrapper; first | (rw [if_pos (by decide +kernel)]; kernel_rfl) | (rw [if_neg (by decide +kernel)]; exact ⟨rfl, rfl⟩))
    (fun os started H enc _ => lifted os started H enc)

/-- the statement: the tied card -/
theorem proved : Rows.SignRightCardSaid :=
  Claim7.holds_tied_plain_at .later [] [.data] true (true, "bc6094e853e3747432043714df9a4ae338abb82d89132539a305f2be281f9fc0") true
    over (fun _ h => by cases h) (by kernel_rfl) (fun _ h => by cases h) signRight_row_tie rfl ⟨rfl, rfl⟩ (by kernel_rfl) rfl
    (fun f fn hf hfn => by
      obtain rfl : f = 4 := Option.some.inj ((show Tryd.prog.funcNamed "franking/frankinglaw11.SignRight" = some 4 by kernel_rfl).symm.trans hf) |>.symm
      obtain rfl : fn = Tryd.f4 := (Option.some.inj (Tryd.func4.symm.trans hfn)).symm
      exact ⟨by kernel_rfl, fun j t ht => by
        rw [Tryd.params4] at ht
        have hm : t ∈ [3, 22] := by simpa using Array.mem_of_getElem? ht
        have hall : ([3, 22].all fun u => !Tryd.prog.wantsStandIn u) = true := by kernel_rfl
        exact (show Tryd.prog.wantsStandIn t = false by simpa using List.all_eq_true.1 hall t hm)⟩)
    (by kernel_rfl)
end signRight
end Go.Proofs.YthhlpkppcbillaaDoor
