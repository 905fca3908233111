/- A receipt that comes back acknowledges the letter. No condition. -/
import Derived.Test.YtpjobllfiimdkaaDoorRecBkZ
import Derived.Test.YtpjobllfiimdkaaDoorOntOpn
import Derived.Test.YtpjobllfiimdkaaDoorDigCard2
import Derived.Test.YtpjobllfiimdkaaDoorArr
namespace Go.Proofs.YtpjobllfiimdkaaDoor
open Go.ChangeShapes Go.WideShapes Go.ChangeAt Go.RowKit Go.WideElems Go.Shelf
set_option linter.unusedVariables false
set_option linter.unusedSimpArgs false

section
variable {H : Type} {enc : TypeId × Value → H} {P : Program} {w : World} {base : Nat} {spare : Nat → Bool} {held : Bool}
theorem open_intsV {r : Reach} {b0 : Nat} {t e : TypeId} {v : Value} {d : DataW H} {ps : List MemPlace} (ht : P.underlying t = some (.slice e)) (he : P.underlying e = some (.int .i64)) (hc : P.cellsOf e = 1)
    (hval : Value.okWide P w r b0 t v) (hd : DataW.Trod enc P w base spare held t v d ps) :
    ∃ p n cap zs, v = .slice p n cap ∧ IntsV w p n cap zs ∧ (∀ z ∈ zs, (Lit.int .i64 z).wf = true) := by
  obtain ⟨a, len, cap, rfl⟩ := okWide_slice ht hval
  obtain ⟨fuel, hf⟩ := hd
  rcases open_ints ht he hc hf with ⟨hcs, _⟩ | ⟨x, l, c, zs, hcs, _, hl, hm, hz, _, hcell, hwz⟩
  · simp [Value.cells] at hcs
    obtain ⟨rfl, rfl, rfl⟩ := hcs
    exact ⟨none, 0, 0, [], rfl, ⟨rfl, by omega, .inl rfl⟩, by simp⟩
  · simp [Value.cells] at hcs
    obtain ⟨rfl, rfl, rfl⟩ := hcs
    have hlz : len ≤ zs.length := by rw [hz]; split <;> omega
    have hml : maxLen ≤ 9223372036854775807 := by decide
    refine ⟨some x, len, cap, zs.take len, rfl, ⟨by rw [List.length_take]; omega, by omega, ?_⟩, fun z h => hwz z (List.mem_of_mem_take h)⟩
    by_cases h0 : len = 0
    · exact .inl h0
    · right
      obtain ⟨b, off, rfl, hj⟩ := Go.ints_at hcell (by omega)
      refine ⟨b, off, rfl, ?_, ?_⟩
      · have := lt_of_cell (hj 0 (by omega)); exact this
      · intro j hj'
        rw [List.length_take] at hj'
        rw [hj j (by omega)]
        simp only [List.getD_eq_getElem?_getD, List.getElem?_take, show j < len by omega, if_true]
end
set_option maxHeartbeats 2000000 in
theorem back_walk (sec a b c : Int) (p : Option Addr) (n cap : Nat) (zs : List Int) (alias nonce r0 r1 r2 : Int) (w : World) (hk : Hid (KeysAt w)) (hz : Hid (IntsV w p n cap zs)) (hok : Hid (∀ q ∈ intsA [a, b, c], q.ok)) :
    Calls Tryd.prog 3 #[.int .i64 sec, .agg #[.int .i64 a, .int .i64 b, .int .i64 c], .slice p n cap, .int .i64 alias, .int .i64 nonce, .agg #[.int .i64 r0, .int .i64 r1, .int .i64 r2]] w fun r w' => r = .returned (.bool true) ∧ Below w.heap.size w w' := by
  by_cases h4 : 4 < n
  · exact back_long sec a b c p n cap zs alias nonce r0 r1 r2 w hk hz h4
  have h4 : n ≤ 4 := by omega
  cases hs0 : zs.all secB with
  | false => exact back_bad sec a b c p n cap zs alias nonce r0 r1 r2 w hk hz h4 (Lib.hid hs0)
  | true =>
  have hs := Lib.hid hs0
  obtain ⟨J, hj0⟩ : ∃ J, joinZ (zs.map pubZ) = J := ⟨_, rfl⟩
  have hjp : J = powZ 4 zs.sum := by rw [← hj0]; exact join_pow hs0
  have hy : elB J = true := by rw [hjp]; exact powZ_el elB_4 _
  have hj := Lib.hid hj0
  clear hj0 hs0
  obtain ⟨e0, e1, hsig⟩ := isSig sec (ltx a b c)
  have er := hsig.rng
  have w0 : wordB (e0 + 1) = true := by unfold wordB; simp; omega
  have w1 : wordB (e1 + 1) = true := by unfold wordB; simp; omega
  have HS := Lib.hid hsig
  have HRZ := Lib.hid (show IsRC 0 0 0 0 (List.replicate 32 0) 160 from .inl ⟨by unfold partB; rw [elB_0]; simp, rfl⟩)
  have K : ∀ q : World, Below w.heap.size w q → Hid (KeysAt q) := fun q hq => Lib.hid (hk.out.below hq)
  cases ha : wordB alias with
  | false =>
    have HM := Lib.hid (fun q (hq : Below w.heap.size w q) => omake_word 1 J alias nonce q (Lib.hid (by decide)) (Lib.hid hy) (Lib.hid ha))
    by_cases hx : sec < 1 ∨ 1073741789 ≤ sec
    · exact back_e160_110 sec a b c p n cap zs alias nonce r0 r1 r2 w hk hz h4 hs J hj 0 0 0 0 (List.replicate 32 0) (Lib.hid rfl) HM (Lib.hid fun q hq => recMake_key sec a b c 0 0 0 0 (List.replicate 32 0) r0 r1 r2 q (Lib.hid rfl) hok (K q hq) hx)
    cases hw : [a, b, c].all wordB with
    | false => exact back_e160_430 sec a b c p n cap zs alias nonce r0 r1 r2 w hk hz h4 hs J hj 0 0 0 0 (List.replicate 32 0) (Lib.hid rfl) HM (Lib.hid fun q hq => recMake_rec sec a b c 0 0 0 0 (List.replicate 32 0) r0 r1 r2 q (Lib.hid rfl) hok (K q hq) (by omega) (by omega) e0 e1 HS (Lib.hid hw))
    | true => exact back_e160_160 sec a b c p n cap zs alias nonce r0 r1 r2 w hk hz h4 hs J hj 0 0 0 0 (List.replicate 32 0) (Lib.hid rfl) HM (Lib.hid fun q hq => recMake_use sec a b c 0 0 0 0 (List.replicate 32 0) r0 r1 r2 q (Lib.hid rfl) hok (K q hq) (by omega) (by omega) e0 e1 HS (Lib.hid hw) er.1 er.2 0 0 0 0 0 0 160 (Lib.hid fun g hg => ouse_ret 0 0 0 0 (List.replicate 32 0) (e0 + 1) (e1 + 1) r0 r1 r2 g (Lib.hid rfl) (Lib.hid ((K q hq).out.below hg)) HRZ))
  | true =>
    obtain ⟨xa, xb, hc⟩ := isCip J (elmZ alias) nonce
    obtain ⟨ds, hds⟩ := isTag 1 J xa xb
    have HL := Lib.hid hds.len
    have ce := cip_el hy (elm_el ha) hc
    have HRC := Lib.hid (show IsRC 1 J xa xb ds 0 from .inr ⟨partB_iff.2 ⟨by decide, hy, ce.1, ce.2⟩, ds, hds, .inl ⟨rfl, rfl⟩⟩)
    have HM := Lib.hid (fun q (hq : Below w.heap.size w q) => omake_ok 1 J alias nonce q (Lib.hid (by decide)) (Lib.hid hy) (Lib.hid ha) xa xb ds (Lib.hid hc) (Lib.hid hds) (K q hq))
    by_cases hx : sec < 1 ∨ 1073741789 ≤ sec
    · exact back_e0_110 sec a b c p n cap zs alias nonce r0 r1 r2 w hk hz h4 hs J hj 1 J xa xb ds HL HM (Lib.hid fun q hq => recMake_key sec a b c 1 J xa xb ds r0 r1 r2 q HL hok (K q hq) hx)
    cases hw : [a, b, c].all wordB with
    | false => exact back_e0_430 sec a b c p n cap zs alias nonce r0 r1 r2 w hk hz h4 hs J hj 1 J xa xb ds HL HM (Lib.hid fun q hq => recMake_rec sec a b c 1 J xa xb ds r0 r1 r2 q HL hok (K q hq) (by omega) (by omega) e0 e1 HS (Lib.hid hw))
    | true =>
      obtain ⟨a0, b0, h0⟩ := isCip J (elmZ 1) r0
      obtain ⟨a1, b1, h1⟩ := isCip J (elmZ (e0 + 1)) r1
      obtain ⟨a2, b2, h2⟩ := isCip J (elmZ (e1 + 1)) r2
      obtain ⟨A, hA⟩ : ∃ A, mulZ xa a0 = A := ⟨_, rfl⟩
      obtain ⟨B, hB⟩ : ∃ B, mulZ xb b0 = B := ⟨_, rfl⟩
      have hAB := sealed_cip hy (elm_el ha) hc h0
      rw [hA, hB] at hAB
      have L0 := Lib.hid (Lft.of_cip (σ := zs.sum) (by rw [← hjp]; exact hAB))
      have L1 := Lib.hid (Lft.of_cip (σ := zs.sum) (by rw [← hjp]; exact h1))
      have L2 := Lib.hid (Lft.of_cip (σ := zs.sum) (by rw [← hjp]; exact h2))
      exact back_main sec a b c p n cap zs alias nonce r0 r1 r2 w hk hz h4 hs J hj 1 J xa xb ds HL (elmZ alias) (elmZ (e0 + 1)) (elmZ (e1 + 1)) (nonce + r0) r1 r2 A B a1 b1 a2 b2 (powZ 4 sec) e0 e1 (e0 + 1) (e1 + 1) (Lib.hid (elm_el ha)) (Lib.hid (elm_el w0)) (Lib.hid (elm_el w1)) L0 L1 L2 (Lib.hid (num_elm (wordB_iff.1 ha)).1) (Lib.hid (num_elm (wordB_iff.1 w0)).1) (Lib.hid (num_elm (wordB_iff.1 w1)).1) (Lib.hid (by unfold secB; simp; omega)) ⟨rfl⟩ hok (Lib.hid (by rw [IntWalk.i64_in _ (by omega)]; omega)) (Lib.hid (by rw [IntWalk.i64_in _ (by omega)]; omega)) (Lib.hid hsig.ver) HM (Lib.hid fun q hq => recMake_use sec a b c 1 J xa xb ds r0 r1 r2 q HL hok (K q hq) (by omega) (by omega) e0 e1 HS (Lib.hid hw) er.1 er.2 A B a1 b1 a2 b2 0 (Lib.hid fun g hg => ouse_ok 1 J xa xb ds (e0 + 1) (e1 + 1) r0 r1 r2 g HL (Lib.hid ((K q hq).out.below hg)) HRC (Lib.hid w0) (Lib.hid w1) (Lib.hid hy) (Lib.hid ⟨by decide, w0, w1⟩) a0 b0 a1 b1 a2 b2 A B (Lib.hid h0) (Lib.hid h1) (Lib.hid h2) (Lib.hid hA) (Lib.hid hB)))

namespace receiptsBack
theorem readable : ∀ t ∈ Tryd.f3.params.toList, Tryd.prog.readableRec t = true ∧ t < Tryd.prog.types.size := by
  rw [Tryd.params3]
  intro t ht
  simp only [List.mem_cons, List.not_mem_nil, or_false] at ht
  rcases ht with rfl | rfl | rfl | rfl | rfl | rfl
  all_goals exact ⟨by kernel_rfl, by decide +kernel⟩

set_option maxRecDepth 100000 in
theorem lifted (os : Os) (started : os.Started) (H : Type) (enc : TypeId × Value → H) :
    ReturnsInHanded {} Tryd.checked os 3 .any (fun w args => (Rows.receiptsBackSpec.pre enc Tryd.prog Tryd.f3 [] false w args ∧ laidMetH Tryd.prog laidK w) ∧ sizedMet enc Tryd.prog Tryd.f3 (OpenSpec.ofChange Rows.receiptsBackSpec) false w args)
      (Rows.receiptsBackSpec.post enc Tryd.prog Tryd.f3 false true false false) := by
  refine returnsInHanded_of_change_and (C := Tryd.checked) (X := fun w _ => laidMetH Tryd.prog laidK w) (fun _ _ _ hh h => h.of_heap hh) own_knob started (by kernel_rfl) Tryd.func3
    (ChangeSpec.witness_shaped (enc := enc) (C := Tryd.checked) (os := os) (X := fun w _ => laidMetH Tryd.prog laidK w) false (World.doorLaid Tryd.prog 400 os) #[.int .i64 0, .agg #[.int .i64 0, .int .i64 0, .int .i64 0], .slice none 0 0, .int .i64 0, .int .i64 0, .agg #[.int .i64 0, .int .i64 0, .int .i64 0]] 8 rfl (World.shaped_of_RefB (by kernel_rfl) (by kernel_rfl)) (by kernel_rfl) (by kernel_rfl) (by kernel_rfl) (door_met os _)) ?_
  intro W base args ds gs before hval0 hW _ _ hL _
  have hval : ∀ (j : Nat) t v, Tryd.f3.params[j]? = some t → args[j]? = some v → Value.okWide Tryd.prog W .any base t v := hval0
  have hW' := hW
  obtain ⟨p, q, hA0, hV, rfl, hfz, hnd⟩ := hW
  have hA : DataW.TrodAll enc Tryd.prog W 0 (fun _ => true) true Tryd.f3.params.toList args.toList ds p := hA0
  rw [Tryd.params3] at hA hval
  obtain ⟨v0, vs0, d0, ds0, p0, q0, hargs, rfl, rfl, h0, r0⟩ := trodAll_cons hA
  obtain ⟨v1, vs1, d1, ds1, p1, q1, rfl, rfl, rfl, h1, r1⟩ := trodAll_cons r0
  obtain ⟨v2, vs2, d2, ds2, p2, q2, rfl, rfl, rfl, h2, r2⟩ := trodAll_cons r1
  obtain ⟨v3, vs3, d3, ds3, p3, q3, rfl, rfl, rfl, h3, r3⟩ := trodAll_cons r2
  obtain ⟨v4, vs4, d4, ds4, p4, q4, rfl, rfl, rfl, h4, r4⟩ := trodAll_cons r3
  obtain ⟨v5, vs5, d5, ds5, p5, q5, rfl, rfl, rfl, h5, r5⟩ := trodAll_cons r4
  obtain ⟨rfl, rfl, rfl⟩ := trodAll_nil r5
  obtain rfl : args = #[v0, v1, v2, v3, v4, v5] := by cases args; simp_all
  obtain ⟨rfl, rfl⟩ := trodVars_none hV
  obtain ⟨a0, rfl, rfl, rfl, w0⟩ := open_int Tryd.underlying3 (hval 0 3 v0 rfl rfl) h0
  obtain ⟨a1, b1, c1, rfl, w1, x1, y1⟩ := open_arr3 Tryd.underlying23 Tryd.underlying3 (by kernel_rfl) (by kernel_rfl) (hval 1 23 v1 rfl rfl) h1
  obtain ⟨s2, n2, c2, z2, rfl, w2, x2⟩ := open_intsV Tryd.underlying24 Tryd.underlying3 (by kernel_rfl) (hval 2 24 v2 rfl rfl) h2
  obtain ⟨a3, rfl, rfl, rfl, w3⟩ := open_int Tryd.underlying3 (hval 3 3 v3 rfl rfl) h3
  obtain ⟨a4, rfl, rfl, rfl, w4⟩ := open_int Tryd.underlying3 (hval 4 3 v4 rfl rfl) h4
  obtain ⟨a5, b5, c5, rfl, w5, x5, y5⟩ := open_arr3 Tryd.underlying22 Tryd.underlying3 (by kernel_rfl) (by kernel_rfl) (hval 5 22 v5 rfl rfl) h5
  have hK := of_laid hL
  clear hA0 hval0
  refine (back_walk a0 a1 b1 c1 s2 n2 c2 z2 a3 a4 a5 b5 c5 W (Lib.hid hK) (Lib.hid w2) (Lib.hid (ints3 (bounds_i64 w1) (bounds_i64 x1) (bounds_i64 y1)))).mono fun e W' ⟨he, hb⟩ => ?_
  subst he
  exact ⟨_, rfl, law_post laid_out readable rfl rfl Tryd.underlying4 hW' rfl rfl rfl hb⟩

theorem over : Rows.receiptsBackRow.holds Tryd.pinned (OpenSpec.ofChange Rows.receiptsBackSpec) :=
  OpenClaim.holds_of_wide 3 Tryd.f3 rfl rfl rfl rfl rfl rfl rfl ⟨rfl, rfl, rfl, rfl, rfl⟩ rfl rfl rfl rfl rfl (by kernel_rfl) Tryd.func3 (by kernel_rfl)
    (of_decide_eq_true (by kernel_rfl)) (by unfold Func.isWrapper; first | (rw [if_pos (by decide +kernel)]; kernel_rfl) | (rw [if_neg (by decide +kernel)]; exact ⟨rfl, rfl⟩))
    (fun os started H enc _ => lifted os started H enc)

/-- the statement: the tied card -/
theorem proved : Rows.ReceiptsBackCardSaid :=
  Claim7.holds_tied_plain_at .later [] [.data] true (true, "6a74bf4fb0f8714b97243300452f04d842f8285a55243ab119fe20efcdbd8f15") true
    over (fun _ h => by cases h) (by kernel_rfl) (fun _ h => by cases h) receiptsBack_row_tie rfl ⟨rfl, rfl⟩ (by kernel_rfl) rfl
    (fun f fn hf hfn => by
      obtain rfl : f = 3 := Option.some.inj ((show Tryd.prog.funcNamed "franking/frankinglaw43.ReceiptsBack" = some 3 by kernel_rfl).symm.trans hf) |>.symm
      obtain rfl : fn = Tryd.f3 := (Option.some.inj (Tryd.func3.symm.trans hfn)).symm
      exact ⟨by kernel_rfl, fun j t ht => by
        rw [Tryd.params3] at ht
        have hm : t ∈ [3, 23, 24, 3, 3, 22] := by simpa using Array.mem_of_getElem? ht
        have hall : ([3, 23, 24, 3, 3, 22].all fun u => !Tryd.prog.wantsStandIn u) = true := by kernel_rfl
        exact (show Tryd.prog.wantsStandIn t = false by simpa using List.all_eq_true.1 hall t hm)⟩)
    (by kernel_rfl)
end receiptsBack
end Go.Proofs.YtpjobllfiimdkaaDoor
