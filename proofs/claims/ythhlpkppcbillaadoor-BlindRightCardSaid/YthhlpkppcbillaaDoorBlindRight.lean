/- For all secrets, nonces, texts and numbers, the answer of the signer leads to a signature that is right, and signer and asker only see a transcript. No condition. -/
import Derived.Test.YthhlpkppcbillaaDoorBld
import Derived.Test.YthhlpkppcbillaaDoorSigCard
import Derived.Test.YthhlpkppcbillaaDoorSignRight
namespace Go.Proofs.YthhlpkppcbillaaDoor
open Go.ChangeShapes Go.WideShapes Go.ChangeAt Go.RowKit Go.WideElems Go.Shelf
set_option linter.unusedVariables false
set_option linter.unusedSimpArgs false

structure ExR (x n u v : Int) (bs : List Int) (key r pt h c y s S z : Int) : Prop where
  hkey : IsPw 4 x key
  hr : IsPw 4 n r
  ek : elB key = true
  er : elB r = true
  bp : IsBp key r u v pt
  ch : IsCh pt key bs h
  hc : modQ (h + v) = c
  hy : modQ (c * x) = y
  hs : modQ (n + y) = s
  hS : modQ (s + u) = S
  ver : IsVer key bs h S true
  sd : IsSides key r c s z z
theorem exR (x n u v : Int) (bs : List Int) : ∃ key r pt h c y s S z, ExR x n u v bs key r pt h c y s S z := by
  obtain ⟨key, hkey⟩ := isPw 4 x
  obtain ⟨r, hr⟩ := isPw 4 n
  have ek := powZ_el elB_4 x
  have er := powZ_el elB_4 n
  rw [hkey.eq] at ek
  rw [hr.eq] at er
  obtain ⟨pt, hp⟩ := isBp key r u v
  obtain ⟨h, hh⟩ := isCh pt key bs
  obtain ⟨c, hc⟩ : ∃ c, modQ (h + v) = c := ⟨_, rfl⟩
  obtain ⟨y, hy⟩ : ∃ y, modQ (c * x) = y := ⟨_, rfl⟩
  obtain ⟨s, hs⟩ : ∃ s, modQ (n + y) = s := ⟨_, rfl⟩
  obtain ⟨S, hS⟩ : ∃ S, modQ (s + u) = S := ⟨_, rfl⟩
  have ht := tr_right (x := x) (n := n) (c := c) (s := s) (by rw [← hs, ← hy]; unfold modQ; generalize c * x = t; omega)
  rw [hkey.eq, hr.eq] at ht
  have hpt := tr_point ek er ht (h := h) (v := v) (u := u) (S := S) (by rw [← hc]; unfold modQ; omega) (by rw [← hS]; unfold modQ; omega)
  rw [hp.eq] at hpt
  exact ⟨key, r, pt, h, c, y, s, S, _, hkey, hr, ek, er, hp, hh, hc, hy, hs, hS, .mk ek hh.rng (by rw [← hS]; exact modQ_rng _) (by rw [hpt]; exact hh), ⟨ht, rfl⟩⟩
theorem secB_no {n : Int} (h : n < 1 ∨ 1073741789 ≤ n) : secB n = false := by
  unfold secB
  rcases h with h | h
  · have : decide (1 ≤ n) = false := by simp; omega
    rw [this]; rfl
  · have : decide (n < 1073741789) = false := by simp; omega
    rw [this]; simp
set_option maxRecDepth 100000 in
set_option maxHeartbeats 4000000 in
theorem blindRight_a (x n : Int) (p : Option Addr) (m cp : Nat) (bs : List Int) (u v : Int) (w : World) (hz : Hid (SrcW w p m cp bs)) (hk : Hid (KeysAt w)) (hm : ¬ m ≤ 600) : Calls Tryd.prog 7 #[.int .i64 x, .int .i64 n, .slice p m cp, .int .i64 u, .int .i64 v] w fun q w' => q = .returned (.bool true) ∧ Below w.heap.size w w' := by
  have B0 := Lib.hid (Below.refl w.heap.size w)
  go_enter Tryd.func7, Tryd.ntmps7
  go_wp2_with (first
    | (go_at_call 23; ((with_reducible refine (sane15_any _ (Lib.hid (hk.out.below B0.out))).mono ?_); rintro q W1 ⟨rfl, hb⟩; have B1 := Lib.hid (bel_trans B0.out hb); clear hb)))
  go_ret
  exact ⟨rfl, B1.out⟩
set_option maxRecDepth 100000 in
set_option maxHeartbeats 4000000 in
theorem blindRight_b (x n : Int) (p : Option Addr) (m cp : Nat) (bs : List Int) (u v : Int) (w : World) (hz : Hid (SrcW w p m cp bs)) (hk : Hid (KeysAt w)) (hm : m ≤ 600) (h1 : x < 1) : Calls Tryd.prog 7 #[.int .i64 x, .int .i64 n, .slice p m cp, .int .i64 u, .int .i64 v] w fun q w' => q = .returned (.bool true) ∧ Below w.heap.size w w' := by
  have B0 := Lib.hid (Below.refl w.heap.size w)
  go_enter Tryd.func7, Tryd.ntmps7
  go_wp2_with (first
    | (go_at_call 23; ((with_reducible refine (sane15_any _ (Lib.hid (hk.out.below B0.out))).mono ?_); rintro q W1 ⟨rfl, hb⟩; have B1 := Lib.hid (bel_trans B0.out hb); clear hb)))
  go_ret
  exact ⟨rfl, B1.out⟩
set_option maxRecDepth 100000 in
set_option maxHeartbeats 4000000 in
theorem blindRight_c (x n : Int) (p : Option Addr) (m cp : Nat) (bs : List Int) (u v : Int) (w : World) (hz : Hid (SrcW w p m cp bs)) (hk : Hid (KeysAt w)) (hm : m ≤ 600) (h1 : ¬ x < 1) (h2 : 1073741789 ≤ x) : Calls Tryd.prog 7 #[.int .i64 x, .int .i64 n, .slice p m cp, .int .i64 u, .int .i64 v] w fun q w' => q = .returned (.bool true) ∧ Below w.heap.size w w' := by
  have B0 := Lib.hid (Below.refl w.heap.size w)
  go_enter Tryd.func7, Tryd.ntmps7
  go_wp2_with (first
    | (go_at_call 23; ((with_reducible refine (sane15_any _ (Lib.hid (hk.out.below B0.out))).mono ?_); rintro q W1 ⟨rfl, hb⟩; have B1 := Lib.hid (bel_trans B0.out hb); clear hb)))
  go_ret
  exact ⟨rfl, B1.out⟩
set_option maxRecDepth 100000 in
set_option maxHeartbeats 4000000 in
theorem blindRight_d (x n : Int) (p : Option Addr) (m cp : Nat) (bs : List Int) (u v : Int) (w : World) (hz : Hid (SrcW w p m cp bs)) (hk : Hid (KeysAt w)) (hm : m ≤ 600) (h1 : ¬ x < 1) (h2 : ¬ 1073741789 ≤ x) (h3 : n < 1) (key : Int) (hkey : Hid (IsPw 4 x key)) (hn : Hid (secB n = false)) : Calls Tryd.prog 7 #[.int .i64 x, .int .i64 n, .slice p m cp, .int .i64 u, .int .i64 v] w fun q w' => q = .returned (.bool true) ∧ Below w.heap.size w w' := by
  have B0 := Lib.hid (Below.refl w.heap.size w)
  go_enter Tryd.func7, Tryd.ntmps7
  go_wp2_with (first
    | (go_at_call 23; ((with_reducible refine (sane15_any _ (Lib.hid (hk.out.below B0.out))).mono ?_); rintro q W1 ⟨rfl, hb⟩; have B1 := Lib.hid (bel_trans B0.out hb); clear hb))
    | (go_at_call 16; ((with_reducible refine (pow_is 4 x key _ hkey (Lib.hid pe4)).mono ?_); rintro q W2 ⟨rfl, hb⟩; have B2 := Lib.hid (bel_trans B1.out hb); clear hb))
    | (go_at_call 24; ((with_reducible refine (begin_no n _ hn).mono ?_); rintro q W3 ⟨rfl, hb⟩; have B3 := Lib.hid (bel_trans B2.out hb); clear hb)))
  go_ret
  exact ⟨rfl, B3.out⟩
set_option maxRecDepth 100000 in
set_option maxHeartbeats 4000000 in
theorem blindRight_e (x n : Int) (p : Option Addr) (m cp : Nat) (bs : List Int) (u v : Int) (w : World) (hz : Hid (SrcW w p m cp bs)) (hk : Hid (KeysAt w)) (hm : m ≤ 600) (h1 : ¬ x < 1) (h2 : ¬ 1073741789 ≤ x) (h3 : ¬ n < 1) (h4 : 1073741789 ≤ n) (key : Int) (hkey : Hid (IsPw 4 x key)) (hn : Hid (secB n = false)) : Calls Tryd.prog 7 #[.int .i64 x, .int .i64 n, .slice p m cp, .int .i64 u, .int .i64 v] w fun q w' => q = .returned (.bool true) ∧ Below w.heap.size w w' := by
  have B0 := Lib.hid (Below.refl w.heap.size w)
  go_enter Tryd.func7, Tryd.ntmps7
  go_wp2_with (first
    | (go_at_call 23; ((with_reducible refine (sane15_any _ (Lib.hid (hk.out.below B0.out))).mono ?_); rintro q W1 ⟨rfl, hb⟩; have B1 := Lib.hid (bel_trans B0.out hb); clear hb))
    | (go_at_call 16; ((with_reducible refine (pow_is 4 x key _ hkey (Lib.hid pe4)).mono ?_); rintro q W2 ⟨rfl, hb⟩; have B2 := Lib.hid (bel_trans B1.out hb); clear hb))
    | (go_at_call 24; ((with_reducible refine (begin_no n _ hn).mono ?_); rintro q W3 ⟨rfl, hb⟩; have B3 := Lib.hid (bel_trans B2.out hb); clear hb)))
  go_ret
  exact ⟨rfl, B3.out⟩
set_option maxRecDepth 100000 in
set_option maxHeartbeats 4000000 in
theorem blindRight_f (x n : Int) (p : Option Addr) (m cp : Nat) (bs : List Int) (u v : Int) (w : World) (hz : Hid (SrcW w p m cp bs)) (hk : Hid (KeysAt w)) (hm : m ≤ 600) (h1 : ¬ x < 1) (h2 : ¬ 1073741789 ≤ x) (h3 : ¬ n < 1) (h4 : ¬ 1073741789 ≤ n) (HT : Hid (txOk bs)) : Calls Tryd.prog 7 #[.int .i64 x, .int .i64 n, .slice p m cp, .int .i64 u, .int .i64 v] w fun q w' => q = .returned (.bool true) ∧ Below w.heap.size w w' := by
  have B0 := Lib.hid (Below.refl w.heap.size w)
  obtain ⟨key, r, pt, h, c, y, s, S, z, hx⟩ := exR x n u v bs
  have HKEY := Lib.hid hx.hkey; have HR := Lib.hid hx.hr; have HEK := Lib.hid hx.ek; have HER := Lib.hid hx.er; have HBP := Lib.hid hx.bp; have HCH := Lib.hid hx.ch; have HC := Lib.hid hx.hc; have HY := Lib.hid hx.hy; have HSS := Lib.hid hx.hs; have HS := Lib.hid hx.hS; have HV := Lib.hid hx.ver; have HSD := Lib.hid hx.sd
  have HX := Lib.hid (secB_iff.2 (show 1 ≤ x ∧ x < 1073741789 by omega))
  have HN := Lib.hid (secB_iff.2 (show 1 ≤ n ∧ n < 1073741789 by omega))
  have cb : 0 ≤ c ∧ c < 1073741789 := by rw [← hx.hc]; exact modQ_rng _
  have sb : 0 ≤ s ∧ s < 1073741789 := by rw [← hx.hs]; exact modQ_rng _
  obtain ⟨cb0, cb1⟩ := cb
  obtain ⟨sb0, sb1⟩ := sb
  clear hx
  go_enter Tryd.func7, Tryd.ntmps7
  go_upto_region 14 with (first
    | (go_at_call 23; ((with_reducible refine (sane15_any _ (Lib.hid (hk.out.below B0.out))).mono ?_); rintro q W1 ⟨rfl, hb⟩; have B1 := Lib.hid (bel_trans B0.out hb); clear hb))
    | (go_at_call 16; ((with_reducible refine (pow_is 4 x key _ HKEY (Lib.hid pe4)).mono ?_); rintro q W2 ⟨rfl, hb⟩; have B2 := Lib.hid (bel_trans B1.out hb); clear hb))
    | (go_at_call 24; ((with_reducible refine (begin_yes n r _ HN HR).mono ?_); rintro q W3 ⟨rfl, hb⟩; have B3 := Lib.hid (bel_trans B2.out hb); clear hb))
    | (go_at_call 25; ((with_reducible refine (ask_yes key r u v pt h c p m cp bs _ HEK HER HT (Lib.hid (hz.out.below B3.out)) (Lib.hid (hk.out.below B3.out)) HBP HCH HC).mono ?_); rintro q W4 ⟨rfl, hb⟩; have B4 := Lib.hid (bel_trans B3.out hb); clear hb))
    | (go_at_call 26; ((with_reducible refine (answer_yes x n c y s _ HX HN HY HSS).mono ?_); rintro q W5 ⟨rfl, hb⟩; have B5 := Lib.hid (bel_trans B4.out hb); clear hb))
    | (go_at_call 27; ((with_reducible refine (finish_yes key r u v s pt h S p m cp bs _ HEK HER HT (Lib.hid (hz.out.below B5.out)) (Lib.hid (hk.out.below B5.out)) HBP HCH HS HV).mono ?_); rintro q W6 ⟨rfl, hb⟩; have B6 := Lib.hid (bel_trans B5.out hb); clear hb)))
  have hb := bel_alloc1 W6 (.cells #[.int .i64 h, .int .i64 S] 24)
  have B7 := Lib.hid (bel_trans B6.out hb)
  have R7 := Lib.hid (Blk.new W6 #[.int .i64 h, .int .i64 S] 24)
  clear hb
  generalize World.alloc W6 _ = W7 at B7 R7 ⊢
  generalize W6.heap.size = nR at R7 ⊢
  have cR0 := R7.out.cell 0
  have cR1 := R7.out.cell 1
  go_wp2_with (first
    | (go_at_call 28; ((with_reducible refine (tr_good key r c s z z _ HEK HER HSD).mono ?_); rintro q w' ⟨rfl, rfl⟩; rw [beq_self_eq_true]))
    | (go_at_call 14; ((with_reducible refine (verify_is key h S p m cp bs _ HT (Lib.hid (hz.out.below B7.out)) (Lib.hid (hk.out.below B7.out)) true HV).mono ?_); rintro q W8 ⟨rfl, hb⟩; have B8 := Lib.hid (bel_trans B7.out hb); have R8 := Lib.hid (R7.out.below hb R7.out.lt); have cR0 := R8.out.cell 0; have cR1 := R8.out.cell 1; clear hb)))
  go_ret
  exact ⟨rfl, B8.out⟩
theorem blindRight_walk (x n : Int) (p : Option Addr) (m cp : Nat) (bs : List Int) (u v : Int) (w : World) (hz : Hid (SrcW w p m cp bs)) (hk : Hid (KeysAt w)) (hr : ∀ z ∈ bs, 0 ≤ z ∧ z ≤ 255) : Calls Tryd.prog 7 #[.int .i64 x, .int .i64 n, .slice p m cp, .int .i64 u, .int .i64 v] w fun q w' => q = .returned (.bool true) ∧ Below w.heap.size w w' := by
  by_cases hm : m ≤ 600
  case neg => exact blindRight_a x n p m cp bs u v w hz hk hm
  have HT := Lib.hid (tx_of hz.out hr hm)
  by_cases h1 : x < 1
  · exact blindRight_b x n p m cp bs u v w hz hk hm h1
  by_cases h2 : 1073741789 ≤ x
  · exact blindRight_c x n p m cp bs u v w hz hk hm h1 h2
  obtain ⟨key, hkey⟩ := isPw 4 x
  by_cases h3 : n < 1
  · exact blindRight_d x n p m cp bs u v w hz hk hm h1 h2 h3 key (Lib.hid hkey) (Lib.hid (secB_no (.inl h3)))
  by_cases h4 : 1073741789 ≤ n
  · exact blindRight_e x n p m cp bs u v w hz hk hm h1 h2 h3 h4 key (Lib.hid hkey) (Lib.hid (secB_no (.inr h4)))
  exact blindRight_f x n p m cp bs u v w hz hk hm h1 h2 h3 h4 HT

namespace blindRight
theorem readable : ∀ t ∈ Tryd.f7.params.toList, Tryd.prog.readableRec t = true ∧ t < Tryd.prog.types.size := by
  rw [Tryd.params7]
  intro t ht
  simp only [List.mem_cons, List.not_mem_nil, or_false] at ht
  rcases ht with rfl | rfl | rfl | rfl | rfl
  all_goals exact ⟨by kernel_rfl, by decide +kernel⟩

set_option maxRecDepth 100000 in
theorem lifted (os : Os) (started : os.Started) (H : Type) (enc : TypeId × Value → H) :
    ReturnsInHanded {} Tryd.checked os 7 .any (fun w args => (Rows.blindRightSpec.pre enc Tryd.prog Tryd.f7 [] false w args ∧ laidMetH Tryd.prog laidK w) ∧ sizedMet enc Tryd.prog Tryd.f7 (OpenSpec.ofChange Rows.blindRightSpec) false w args)
      (Rows.blindRightSpec.post enc Tryd.prog Tryd.f7 false true false false) := by
  refine returnsInHanded_of_change_and (C := Tryd.checked) (X := fun w _ => laidMetH Tryd.prog laidK w) (fun _ _ _ hh h => h.of_heap hh) own_knob started (by kernel_rfl) Tryd.func7
    (ChangeSpec.witness_shaped (enc := enc) (C := Tryd.checked) (os := os) (X := fun w _ => laidMetH Tryd.prog laidK w) false (World.doorLaid Tryd.prog 400 os) #[.int .i64 0, .int .i64 0, .slice none 0 0, .int .i64 0, .int .i64 0] 8 rfl (World.shaped_of_RefB (by kernel_rfl) (by kernel_rfl)) (by kernel_rfl) (by kernel_rfl) (by kernel_rfl) (door_met os _)) ?_
  intro W base args ds gs before hval0 hW _ _ hL _
  have hval : ∀ (j : Nat) t v, Tryd.f7.params[j]? = some t → args[j]? = some v → Value.okWide Tryd.prog W .any base t v := hval0
  have hW' := hW
  obtain ⟨p, q, hA0, hV, rfl, hfz, hnd⟩ := hW
  have hA : DataW.TrodAll enc Tryd.prog W 0 (fun _ => true) true Tryd.f7.params.toList args.toList ds p := hA0
  rw [Tryd.params7] at hA hval
  obtain ⟨v0, vs0, d0, ds0, p0, q0, hargs, rfl, rfl, h0, r0⟩ := trodAll_cons hA
  obtain ⟨v1, vs1, d1, ds1, p1, q1, rfl, rfl, rfl, h1, r1⟩ := trodAll_cons r0
  obtain ⟨v2, vs2, d2, ds2, p2, q2, rfl, rfl, rfl, h2, r2⟩ := trodAll_cons r1
  obtain ⟨v3, vs3, d3, ds3, p3, q3, rfl, rfl, rfl, h3, r3⟩ := trodAll_cons r2
  obtain ⟨v4, vs4, d4, ds4, p4, q4, rfl, rfl, rfl, h4, r4⟩ := trodAll_cons r3
  obtain ⟨rfl, rfl, rfl⟩ := trodAll_nil r4
  obtain rfl : args = #[v0, v1, v2, v3, v4] := by cases args; simp_all
  obtain ⟨rfl, rfl⟩ := trodVars_none hV
  obtain ⟨a0, rfl, rfl, rfl, w0⟩ := open_int Tryd.underlying3 (hval 0 3 v0 rfl rfl) h0
  obtain ⟨a1, rfl, rfl, rfl, w1⟩ := open_int Tryd.underlying3 (hval 1 3 v1 rfl rfl) h1
  obtain ⟨s2, n2, c2, z2, rfl, w2, x2, y2, u2⟩ := open_src Tryd.underlying22 Tryd.underlying5 (by kernel_rfl) (hval 2 22 v2 rfl rfl) h2
  obtain ⟨a3, rfl, rfl, rfl, w3⟩ := open_int Tryd.underlying3 (hval 3 3 v3 rfl rfl) h3
  obtain ⟨a4, rfl, rfl, rfl, w4⟩ := open_int Tryd.underlying3 (hval 4 3 v4 rfl rfl) h4
  have hK := of_laid hL
  clear hA0 hval0
  refine (blindRight_walk a0 a1 s2 n2 c2 z2 a3 a4 W (Lib.hid w2) (Lib.hid hK) x2).mono fun e W' ⟨he, hb⟩ => ?_
  subst he
  exact ⟨_, rfl, law_post laid_out readable rfl rfl Tryd.underlying4 hW' rfl rfl rfl hb⟩

theorem over : Rows.blindRightRow.holds Tryd.pinned (OpenSpec.ofChange Rows.blindRightSpec) :=
  OpenClaim.holds_of_wide 7 Tryd.f7 rfl rfl rfl rfl rfl rfl rfl ⟨rfl, rfl, rfl, rfl, rfl⟩ rfl rfl rfl rfl rfl (by kernel_rfl) Tryd.func7 (by kernel_rfl)
    (of_decide_eq_true (by kernel_rfl)) (by unfold Func.isWrapper; first | (rw [if_pos (by decide +kernel)]; kernel_rfl) | (rw [if_neg (by decide +kernel)]; exact ⟨rfl, rfl⟩))
    (fun os started H enc _ => lifted os started H enc)

/-- the statement: the tied card -/
theorem proved : Rows.BlindRightCardSaid :=
  Claim7.holds_tied_plain_at .later [] [.data] true (true, "bc6094e853e3747432043714df9a4ae338abb82d89132539a305f2be281f9fc0") true
    over (fun _ h => by cases h) (by kernel_rfl) (fun _ h => by cases h) blindRight_row_tie rfl ⟨rfl, rfl⟩ (by kernel_rfl) rfl
    (fun f fn hf hfn => by
      obtain rfl : f = 7 := Option.some.inj ((show Tryd.prog.funcNamed "franking/frankinglaw15.BlindRight" = some 7 by kernel_rfl).symm.trans hf) |>.symm
      obtain rfl : fn = Tryd.f7 := (Option.some.inj (Tryd.func7.symm.trans hfn)).symm
      exact ⟨by kernel_rfl, fun j t ht => by
        rw [Tryd.params7] at ht
        have hm : t ∈ [3, 3, 22, 3, 3] := by simpa using Array.mem_of_getElem? ht
        have hall : ([3, 3, 22, 3, 3].all fun u => !Tryd.prog.wantsStandIn u) = true := by kernel_rfl
        exact (show Tryd.prog.wantsStandIn t = false by simpa using List.all_eq_true.1 hall t hm)⟩)
    (by kernel_rfl)
end blindRight
end Go.Proofs.YthhlpkppcbillaaDoor
