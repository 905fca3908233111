/- For every key, every transcript and every signature that is right for it, there are numbers with which Ask leads to the challenge of this transcript, and Finish to this signature. No condition. -/
import Derived.Test.YthhlpkppcbillaaDoorBld
import Derived.Test.YthhlpkppcbillaaDoorSigCard
import Derived.Test.YthhlpkppcbillaaDoorSignRight
namespace Go.Proofs.YthhlpkppcbillaaDoor
open Go.ChangeShapes Go.WideShapes Go.ChangeAt Go.RowKit Go.WideElems Go.Shelf
set_option linter.unusedVariables false
set_option linter.unusedSimpArgs false

set_option maxRecDepth 100000 in
set_option maxHeartbeats 4000000 in
theorem blindAny_a (key r c s : Int) (p : Option Addr) (m cp : Nat) (bs : List Int) (e S : Int) (w : World) (hz : Hid (SrcW w p m cp bs)) (hk : Hid (KeysAt w)) (hm : ¬ m ≤ 600) : Calls Tryd.prog 8 #[.int .i64 key, .int .i64 r, .int .i64 c, .int .i64 s, .slice p m cp, .agg #[.int .i64 e, .int .i64 S]] w fun q w' => q = .returned (.bool true) ∧ Below w.heap.size w w' := by
  have B0 := Lib.hid (bel_alloc1 w (.cells #[.int .i64 e, .int .i64 S] 24))
  have X0 := Lib.hid (Blk.new w #[.int .i64 e, .int .i64 S] 24)
  go_enter Tryd.func8, Tryd.ntmps8
  go_wp2_with (first
    | (go_at_call 23; ((with_reducible refine (sane15_any _ (Lib.hid (hk.out.below B0.out))).mono ?_); rintro q W1 ⟨rfl, hb⟩; have B1 := Lib.hid (bel_trans B0.out hb); clear hb)))
  go_ret
  exact ⟨rfl, B1.out⟩
set_option maxRecDepth 100000 in
set_option maxHeartbeats 4000000 in
theorem blindAny_b (key r c s : Int) (p : Option Addr) (m cp : Nat) (bs : List Int) (e S : Int) (w : World) (hz : Hid (SrcW w p m cp bs)) (hk : Hid (KeysAt w)) (hm : m ≤ 600) (hbad : Hid ((elB key && elB r) = false)) : Calls Tryd.prog 8 #[.int .i64 key, .int .i64 r, .int .i64 c, .int .i64 s, .slice p m cp, .agg #[.int .i64 e, .int .i64 S]] w fun q w' => q = .returned (.bool true) ∧ Below w.heap.size w w' := by
  have B0 := Lib.hid (bel_alloc1 w (.cells #[.int .i64 e, .int .i64 S] 24))
  have X0 := Lib.hid (Blk.new w #[.int .i64 e, .int .i64 S] 24)
  go_enter Tryd.func8, Tryd.ntmps8
  go_wp2_with (first
    | (go_at_call 23; ((with_reducible refine (sane15_any _ (Lib.hid (hk.out.below B0.out))).mono ?_); rintro q W1 ⟨rfl, hb⟩; have B1 := Lib.hid (bel_trans B0.out hb); have X1 := Lib.hid (X0.out.below hb X0.out.lt); have cX0 := X1.out.cell 0; have cX1 := X1.out.cell 1; clear hb))
    | (go_at_call 29; ((with_reducible refine (link_bad key r c s e S p m cp bs _ hbad).mono ?_); rintro q W2 ⟨rfl, hb⟩; have B2 := Lib.hid (bel_trans B1.out hb); have X2 := Lib.hid (X1.out.below hb X1.out.lt); have cX0 := X2.out.cell 0; have cX1 := X2.out.cell 1; clear hb))
    | (go_at_call 28; ((with_reducible refine (tr_bad key r c s _ hbad).mono ?_); rintro q w' ⟨rfl, rfl⟩)))
  go_ret
  exact ⟨rfl, B2.out⟩
set_option maxRecDepth 100000 in
set_option maxHeartbeats 4000000 in
theorem blindAny_c (key r c s : Int) (p : Option Addr) (m cp : Nat) (bs : List Int) (e S : Int) (w : World) (hz : Hid (SrcW w p m cp bs)) (hk : Hid (KeysAt w)) (hm : m ≤ 600) (hkey : Hid (elB key = true)) (hr : Hid (elB r = true)) (x z : Int) (hsd : Hid (IsSides key r c s x z)) (hxz : Hid ((x != z) = true)) (hxe : Hid ((x == z) = false)) : Calls Tryd.prog 8 #[.int .i64 key, .int .i64 r, .int .i64 c, .int .i64 s, .slice p m cp, .agg #[.int .i64 e, .int .i64 S]] w fun q w' => q = .returned (.bool true) ∧ Below w.heap.size w w' := by
  have B0 := Lib.hid (bel_alloc1 w (.cells #[.int .i64 e, .int .i64 S] 24))
  have X0 := Lib.hid (Blk.new w #[.int .i64 e, .int .i64 S] 24)
  go_enter Tryd.func8, Tryd.ntmps8
  go_wp2_with (first
    | (go_at_call 23; ((with_reducible refine (sane15_any _ (Lib.hid (hk.out.below B0.out))).mono ?_); rintro q W1 ⟨rfl, hb⟩; have B1 := Lib.hid (bel_trans B0.out hb); have X1 := Lib.hid (X0.out.below hb X0.out.lt); have cX0 := X1.out.cell 0; have cX1 := X1.out.cell 1; clear hb))
    | (go_at_call 29; ((with_reducible refine (link_differ key r c s e S p m cp bs _ hkey hr x z hsd hxz.out).mono ?_); rintro q W2 ⟨rfl, hb⟩; have B2 := Lib.hid (bel_trans B1.out hb); have X2 := Lib.hid (X1.out.below hb X1.out.lt); have cX0 := X2.out.cell 0; have cX1 := X2.out.cell 1; clear hb))
    | (go_at_call 28; ((with_reducible refine (tr_good key r c s x z _ hkey hr hsd).mono ?_); rintro q w' ⟨rfl, rfl⟩; rw [hxe.out])))
  go_ret
  exact ⟨rfl, B2.out⟩
set_option maxRecDepth 100000 in
set_option maxHeartbeats 4000000 in
theorem blindAny_d (key r c s : Int) (p : Option Addr) (m cp : Nat) (bs : List Int) (e S : Int) (w : World) (hz : Hid (SrcW w p m cp bs)) (hk : Hid (KeysAt w)) (hm : m ≤ 600) (hkey : Hid (elB key = true)) (hr : Hid (elB r = true)) (x z : Int) (hsd : Hid (IsSides key r c s x z)) (hxz : Hid ((x != z) = false)) (hxe : Hid ((x == z) = true)) (HT : Hid (txOk bs)) (HV : Hid (IsVer key bs e S false)) : Calls Tryd.prog 8 #[.int .i64 key, .int .i64 r, .int .i64 c, .int .i64 s, .slice p m cp, .agg #[.int .i64 e, .int .i64 S]] w fun q w' => q = .returned (.bool true) ∧ Below w.heap.size w w' := by
  have B0 := Lib.hid (bel_alloc1 w (.cells #[.int .i64 e, .int .i64 S] 24))
  have X0 := Lib.hid (Blk.new w #[.int .i64 e, .int .i64 S] 24)
  go_enter Tryd.func8, Tryd.ntmps8
  go_wp2_with (first
    | (go_at_call 23; ((with_reducible refine (sane15_any _ (Lib.hid (hk.out.below B0.out))).mono ?_); rintro q W1 ⟨rfl, hb⟩; have B1 := Lib.hid (bel_trans B0.out hb); have X1 := Lib.hid (X0.out.below hb X0.out.lt); have cX0 := X1.out.cell 0; have cX1 := X1.out.cell 1; clear hb))
    | (go_at_call 29; ((with_reducible refine (link_wrong key r c s e S p m cp bs _ hkey hr x z hsd hxz.out HT (Lib.hid (hz.out.below B1.out)) (Lib.hid (hk.out.below B1.out)) HV).mono ?_); rintro q W2 ⟨rfl, hb⟩; have B2 := Lib.hid (bel_trans B1.out hb); have X2 := Lib.hid (X1.out.below hb X1.out.lt); have cX0 := X2.out.cell 0; have cX1 := X2.out.cell 1; clear hb))
    | (go_at_call 28; ((with_reducible refine (tr_good key r c s x z _ hkey hr hsd).mono ?_); rintro q w' ⟨rfl, rfl⟩; rw [hxe.out]))
    | (go_at_call 14; ((with_reducible refine (verify_is key e S p m cp bs _ HT (Lib.hid (hz.out.below B2.out)) (Lib.hid (hk.out.below B2.out)) false HV).mono ?_); rintro q W3 ⟨rfl, hb⟩; have B3 := Lib.hid (bel_trans B2.out hb); have X3 := Lib.hid (X2.out.below hb X2.out.lt); have cX0 := X3.out.cell 0; have cX1 := X3.out.cell 1; clear hb)))
  go_ret
  exact ⟨rfl, B3.out⟩
set_option maxRecDepth 100000 in
set_option maxHeartbeats 4000000 in
theorem blindAny_e (key r c s : Int) (p : Option Addr) (m cp : Nat) (bs : List Int) (e S : Int) (w : World) (hz : Hid (SrcW w p m cp bs)) (hk : Hid (KeysAt w)) (hm : m ≤ 600) (hkey : Hid (elB key = true)) (hr : Hid (elB r = true)) (x z : Int) (hsd : Hid (IsSides key r c s x z)) (hxz : Hid ((x != z) = false)) (hxe : Hid ((x == z) = true)) (HT : Hid (txOk bs)) (HV : Hid (IsVer key bs e S true)) (U V a pt : Int) (HU : Hid (modQ (S - s) = U)) (HVV : Hid (modQ (c - e) = V)) (u0 : 0 ≤ U) (u1 : U < 1073741789) (v0 : 0 ≤ V) (v1 : V < 1073741789) (HA : Hid (modQ (e + V) = a)) (HMC : Hid (modQ c = a)) (HSU : Hid (modQ (s + U) = S)) (HBP : Hid (IsBp key r U V pt)) (HCH : Hid (IsCh pt key bs e)) (heq : (Op.equalIn 10000 24 (.agg #[.int .i64 e, .int .i64 S]) (.agg #[.int .i64 e, .int .i64 S])).run Tryd.prog = fun w => .ok true w) : Calls Tryd.prog 8 #[.int .i64 key, .int .i64 r, .int .i64 c, .int .i64 s, .slice p m cp, .agg #[.int .i64 e, .int .i64 S]] w fun q w' => q = .returned (.bool true) ∧ Below w.heap.size w w' := by
  have B0 := Lib.hid (bel_alloc1 w (.cells #[.int .i64 e, .int .i64 S] 24))
  have X0 := Lib.hid (Blk.new w #[.int .i64 e, .int .i64 S] 24)
  have heq' := fun w => congrFun heq w
  clear heq
  go_enter Tryd.func8, Tryd.ntmps8
  go_upto_region 10 with (first
    | (go_at_call 23; ((with_reducible refine (sane15_any _ (Lib.hid (hk.out.below B0.out))).mono ?_); rintro q W1 ⟨rfl, hb⟩; have B1 := Lib.hid (bel_trans B0.out hb); have X1 := Lib.hid (X0.out.below hb X0.out.lt); have cX0 := X1.out.cell 0; have cX1 := X1.out.cell 1; clear hb))
    | (go_at_call 29; ((with_reducible refine (link_yes key r c s e S p m cp bs _ hkey hr x z hsd hxz.out HT (Lib.hid (hz.out.below B1.out)) (Lib.hid (hk.out.below B1.out)) HV U V HU HVV).mono ?_); rintro q W2 ⟨rfl, hb⟩; have B2 := Lib.hid (bel_trans B1.out hb); have X2 := Lib.hid (X1.out.below hb X1.out.lt); have cX0 := X2.out.cell 0; have cX1 := X2.out.cell 1; clear hb))
    | (go_at_call 28; ((with_reducible refine (tr_good key r c s x z _ hkey hr hsd).mono ?_); rintro q w' ⟨rfl, rfl⟩; rw [hxe.out]))
    | (go_at_call 14; ((with_reducible refine (verify_is key e S p m cp bs _ HT (Lib.hid (hz.out.below B2.out)) (Lib.hid (hk.out.below B2.out)) true HV).mono ?_); rintro q W3 ⟨rfl, hb⟩; have B3 := Lib.hid (bel_trans B2.out hb); have X3 := Lib.hid (X2.out.below hb X2.out.lt); have cX0 := X3.out.cell 0; have cX1 := X3.out.cell 1; clear hb))
    | (go_at_call 25; ((with_reducible refine (ask_yes key r U V pt e a p m cp bs _ hkey hr HT (Lib.hid (hz.out.below B3.out)) (Lib.hid (hk.out.below B3.out)) HBP HCH HA).mono ?_); rintro q W4 ⟨rfl, hb⟩; have B4 := Lib.hid (bel_trans B3.out hb); have X4 := Lib.hid (X3.out.below hb X3.out.lt); have cX0 := X4.out.cell 0; have cX1 := X4.out.cell 1; clear hb))
    | (go_at_call 27; ((with_reducible refine (finish_yes key r U V s pt e S p m cp bs _ hkey hr HT (Lib.hid (hz.out.below B4.out)) (Lib.hid (hk.out.below B4.out)) HBP HCH HSU HV).mono ?_); rintro q W5 ⟨rfl, hb⟩; have B5 := Lib.hid (bel_trans B4.out hb); have X5 := Lib.hid (X4.out.below hb X4.out.lt); have cX0 := X5.out.cell 0; have cX1 := X5.out.cell 1; clear hb)))
  have hb := bel_alloc1 W5 (.cells #[.int .i64 e, .int .i64 S] 24)
  have B6 := Lib.hid (bel_trans B5.out hb)
  have R6 := Lib.hid (Blk.new W5 #[.int .i64 e, .int .i64 S] 24)
  have X6 := Lib.hid (X5.out.below hb X5.out.lt)
  clear hb
  generalize World.alloc W5 _ = W6 at B6 R6 X6 ⊢
  generalize W5.heap.size = nR at R6 ⊢
  have cX0 := X6.out.cell 0
  have cX1 := X6.out.cell 1
  have cR0 := R6.out.cell 0
  have cR1 := R6.out.cell 1
  go_wp2_with (first
    | (go_at_call 21; ((with_reducible refine (rmod_any c _).mono ?_); rintro q w' ⟨rfl, rfl⟩; rw [HMC.out])))
  go_ret
  exact ⟨rfl, B6.out⟩
theorem blindAny_walk (key r c s : Int) (p : Option Addr) (m cp : Nat) (bs : List Int) (e S : Int) (w : World) (hz : Hid (SrcW w p m cp bs)) (hk : Hid (KeysAt w)) (hrr : ∀ z ∈ bs, 0 ≤ z ∧ z ≤ 255) : Calls Tryd.prog 8 #[.int .i64 key, .int .i64 r, .int .i64 c, .int .i64 s, .slice p m cp, .agg #[.int .i64 e, .int .i64 S]] w fun q w' => q = .returned (.bool true) ∧ Below w.heap.size w w' := by
  by_cases hm : m ≤ 600
  case neg => exact blindAny_a key r c s p m cp bs e S w hz hk hm
  have HT := Lib.hid (tx_of hz.out hrr hm)
  cases hb : (elB key && elB r) with
  | false => exact blindAny_b key r c s p m cp bs e S w hz hk hm (Lib.hid hb)
  | true =>
    have hkey := Lib.hid (Bool.and_eq_true_iff.1 hb).1
    have hr := Lib.hid (Bool.and_eq_true_iff.1 hb).2
    obtain ⟨x, z, hsd⟩ := isSides key r c s
    by_cases hxz : x = z
    case neg => exact blindAny_c key r c s p m cp bs e S w hz hk hm hkey hr x z (Lib.hid hsd) (Lib.hid (by simp [hxz])) (Lib.hid (by simp [hxz]))
    have h1 : (x != z) = false := by simp [hxz]
    have h2 : (x == z) = true := by simp [hxz]
    obtain ⟨v, hv⟩ := isVer key bs e S
    cases v with
    | false => exact blindAny_d key r c s p m cp bs e S w hz hk hm hkey hr x z (Lib.hid hsd) (Lib.hid h1) (Lib.hid h2) HT (Lib.hid hv)
    | true =>
      obtain ⟨_, ⟨e0, e1⟩, ⟨S0, S1⟩, hch⟩ := hv.parts
      have ht : powZ 4 s = mulZ r (powZ key c) := by rw [hsd.l, hsd.r, hxz]
      have hpt := tr_point hkey.out hr.out ht (h := e) (v := modQ (c - e)) (u := modQ (S - s)) (S := S) (by unfold modQ; omega) (by unfold modQ; omega)
      rw [hpt] at hch
      obtain ⟨pt, hp⟩ := isBp key r (modQ (S - s)) (modQ (c - e))
      rw [hp.eq] at hch
      have uu := modQ_rng (S - s)
      have vv := modQ_rng (c - e)
      exact blindAny_e key r c s p m cp bs e S w hz hk hm hkey hr x z (Lib.hid hsd) (Lib.hid h1) (Lib.hid h2) HT (Lib.hid hv) _ _ (modQ c) pt (Lib.hid rfl) (Lib.hid rfl) uu.1 uu.2 vv.1 vv.2 (Lib.hid (by unfold modQ; omega)) (Lib.hid rfl) (Lib.hid (by unfold modQ; omega)) (Lib.hid hp) (Lib.hid hch)
        (funext fun w => by have := eqSig e S e S w; simpa using this)

namespace blindAny
theorem readable : ∀ t ∈ Tryd.f8.params.toList, Tryd.prog.readableRec t = true ∧ t < Tryd.prog.types.size := by
  rw [Tryd.params8]
  intro t ht
  simp only [List.mem_cons, List.not_mem_nil, or_false] at ht
  rcases ht with rfl | rfl | rfl | rfl | rfl | rfl
  all_goals exact ⟨by kernel_rfl, by decide +kernel⟩

set_option maxRecDepth 100000 in
theorem lifted (os : Os) (started : os.Started) (H : Type) (enc : TypeId × Value → H) :
    ReturnsInHanded {} Tryd.checked os 8 .any (fun w args => (Rows.blindAnySpec.pre enc Tryd.prog Tryd.f8 [] false w args ∧ laidMetH Tryd.prog laidK w) ∧ sizedMet enc Tryd.prog Tryd.f8 (OpenSpec.ofChange Rows.blindAnySpec) false w args)
      (Rows.blindAnySpec.post enc Tryd.prog Tryd.f8 false true false false) := by
  refine returnsInHanded_of_change_and (C := Tryd.checked) (X := fun w _ => laidMetH Tryd.prog laidK w) (fun _ _ _ hh h => h.of_heap hh) own_knob started (by kernel_rfl) Tryd.func8
    (ChangeSpec.witness_shaped (enc := enc) (C := Tryd.checked) (os := os) (X := fun w _ => laidMetH Tryd.prog laidK w) false (World.doorLaid Tryd.prog 400 os) #[.int .i64 0, .int .i64 0, .int .i64 0, .int .i64 0, .slice none 0 0, .agg #[.int .i64 0, .int .i64 0]] 8 rfl (World.shaped_of_RefB (by kernel_rfl) (by kernel_rfl)) (by kernel_rfl) (by kernel_rfl) (by kernel_rfl) (door_met os _)) ?_
  intro W base args ds gs before hval0 hW _ _ hL _
  have hval : ∀ (j : Nat) t v, Tryd.f8.params[j]? = some t → args[j]? = some v → Value.okWide Tryd.prog W .any base t v := hval0
  have hW' := hW
  obtain ⟨p, q, hA0, hV, rfl, hfz, hnd⟩ := hW
  have hA : DataW.TrodAll enc Tryd.prog W 0 (fun _ => true) true Tryd.f8.params.toList args.toList ds p := hA0
  rw [Tryd.params8] at hA hval
  obtain ⟨v0, vs0, d0, ds0, p0, q0, hargs, rfl, rfl, h0, r0⟩ := trodAll_cons hA
  obtain ⟨v1, vs1, d1, ds1, p1, q1, rfl, rfl, rfl, h1, r1⟩ := trodAll_cons r0
  obtain ⟨v2, vs2, d2, ds2, p2, q2, rfl, rfl, rfl, h2, r2⟩ := trodAll_cons r1
  obtain ⟨v3, vs3, d3, ds3, p3, q3, rfl, rfl, rfl, h3, r3⟩ := trodAll_cons r2
  obtain ⟨v4, vs4, d4, ds4, p4, q4, rfl, rfl, rfl, h4, r4⟩ := trodAll_cons r3
  obtain ⟨v5, vs5, d5, ds5, p5, q5, rfl, rfl, rfl, h5, r5⟩ := trodAll_cons r4
  obtain ⟨rfl, rfl, rfl⟩ := trodAll_nil r5
  obtain rfl : args = #[v0, v1, v2, v3, v4, v5] := by cases args; simp_all
  obtain ⟨rfl, rfl⟩ := trodVars_none hV
  obtain ⟨a0, rfl, rfl, rfl, w0⟩ := open_int Tryd.underlying3 (hval 0 3 v0 rfl rfl) h0
  obtain ⟨a1, rfl, rfl, rfl, w1⟩ := open_int Tryd.underlying3 (hval 1 3 v1 rfl rfl) h1
  obtain ⟨a2, rfl, rfl, rfl, w2⟩ := open_int Tryd.underlying3 (hval 2 3 v2 rfl rfl) h2
  obtain ⟨a3, rfl, rfl, rfl, w3⟩ := open_int Tryd.underlying3 (hval 3 3 v3 rfl rfl) h3
  obtain ⟨s4, n4, c4, z4, rfl, w4, x4, y4, u4⟩ := open_src Tryd.underlying22 Tryd.underlying5 (by kernel_rfl) (hval 4 22 v4 rfl rfl) h4
  obtain ⟨e5, t5, rfl, w5, x5⟩ := open_sig (hval 5 24 v5 rfl rfl) h5
  have hK := of_laid hL
  clear hA0 hval0
  refine (blindAny_walk a0 a1 a2 a3 s4 n4 c4 z4 e5 t5 W (Lib.hid w4) (Lib.hid hK) x4).mono fun e W' ⟨he, hb⟩ => ?_
  subst he
  exact ⟨_, rfl, law_post laid_out readable rfl rfl Tryd.underlying4 hW' rfl rfl rfl hb⟩

theorem over : Rows.blindAnyRow.holds Tryd.pinned (OpenSpec.ofChange Rows.blindAnySpec) :=
  OpenClaim.holds_of_wide 8 Tryd.f8 rfl rfl rfl rfl rfl rfl rfl ⟨rfl, rfl, rfl, rfl, rfl⟩ rfl rfl rfl rfl rfl (by kernel_rfl) Tryd.func8 (by kernel_rfl)
    (of_decide_eq_true (by kernel_rfl)) (by unfold Func.isWrapper; first | (rw [if_pos (by decide +kernel)]; kernel_rfl) | (rw [if_neg (by decide +kernel)]; exact ⟨rfl, rfl⟩))
    (fun os started H enc _ => lifted os started H enc)

/-- the statement: the tied card -/
theorem proved : Rows.BlindAnyCardSaid :=
  Claim7.holds_tied_plain_at .later [] [.data] true (true, "bc6094e853e3747432043714df9a4ae338abb82d89132539a305f2be281f9fc0") true
    over (fun _ h => by cases h) (by kernel_rfl) (fun _ h => by cases h) blindAny_row_tie rfl ⟨rfl, rfl⟩ (by kernel_rfl) rfl
    (fun f fn hf hfn => by
      obtain rfl : f = 8 := Option.some.inj ((show Tryd.prog.funcNamed "franking/frankinglaw15.BlindAny" = some 8 by kernel_rfl).symm.trans hf) |>.symm
      obtain rfl : fn = Tryd.f8 := (Option.some.inj (Tryd.func8.symm.trans hfn)).symm
      exact ⟨by kernel_rfl, fun j t ht => by
        rw [Tryd.params8] at ht
        have hm : t ∈ [3, 3, 3, 3, 22, 24] := by simpa using Array.mem_of_getElem? ht
        have hall : ([3, 3, 3, 3, 22, 24].all fun u => !Tryd.prog.wantsStandIn u) = true := by kernel_rfl
        exact (show Tryd.prog.wantsStandIn t = false by simpa using List.all_eq_true.1 hall t hm)⟩)
    (by kernel_rfl)
end blindAny
end Go.Proofs.YthhlpkppcbillaaDoor
