/- For all serials, keys and stamps, valid or not, Spend matches the specification. No condition. -/
import Derived.Test.YtjdkdhpippapmaaGreatDoorStpZE
import Derived.Test.YtjdkdhpippapmaaGreatDoorStpZD
import Derived.Test.YtjdkdhpippapmaaGreatDoorStpOpn
import Derived.Test.YtjdkdhpippapmaaGreatDoorStpRf4
namespace Go.Proofs.YtjdkdhpippapmaaGreatDoor
open Go.ChangeShapes Go.WideShapes Go.ChangeAt Go.RowKit Go.WideElems Go.Shelf
set_option linter.unusedVariables false
set_option linter.unusedSimpArgs false

theorem isChk (key : Int) (zs : List Int) (n c s : Int) : ∃ v, IsChk key zs n c s v := by
  cases h : valB n with
  | false => exact ⟨false, .inl ⟨h, rfl⟩⟩
  | true =>
    obtain ⟨v, hv⟩ := isVer key (encL [.text zs, .int n]) c s
    exact ⟨v, .inr ⟨h, hv⟩⟩
theorem srcD_nil (w : World) : SrcD w none 0 0 [] := ⟨rfl, Nat.le_refl _, by decide, .inl ⟨rfl, fun _ => rfl⟩⟩
theorem srcD_own {w : World} {B : Nat} {v : Value} {n : Nat} {l : List (List Int)} (hd : Dgs l) (hn : l.length = n) (h : OwnR w B v n l.flatten) : ∃ p c, v = .slice p n c ∧ SrcD w p n c l.flatten := by
  subst hn
  obtain ⟨p, c, hv, hs⟩ := ownR_src hd h
  exact ⟨p, c, hv, hs.flat hd⟩
set_option maxRecDepth 100000 in
set_option maxHeartbeats 4000000 in
theorem stampsSpendSpec_many (key : Int) (zs : List Int) (nv c s : Int) (l : List (List Int)) (p : Option Addr) (n cap : Nat) (w : World) (hl : Hid (zs.length = 32)) (hr : Hid (∀ z ∈ zs, 0 ≤ z ∧ z ≤ 255)) (hd : Hid (Dgs l)) (hz : Hid (SrcL w p n cap l)) (hk : Hid (KeysAt w)) (HF : decide (n ≤ 40) = false) :
    Calls Tryz.prog 4 #[.slice p n cap, .int .i64 key, .agg (stv zs nv c s).toArray] w fun q w' => q = .returned (.bool true) ∧ Below w.heap.size w w' := by
  have S0 := Lib.hid (SBlk.box w 27 nv c s hl.out)
  have B0 := Lib.hid (bel_alloc1 w (.cells (stv zs nv c s).toArray 27))
  go_enter Tryz.func4, Tryz.ntmps4
  go_wp2_with (first
    | (go_at_call 8; refine (sane37_any _ (Lib.hid (hk.out.below B0.out))).mono ?_; rintro e w1 ⟨rfl, hb⟩; have B1 := Lib.hid (bel_trans B0.out hb); have S1 := Lib.hid (S0.out.bel hb); clear hb)
    | (go_at_call 15; refine (rfew_is p n cap false _ HF).mono ?_; rintro e w' ⟨rfl, rfl⟩))
  go_ret
  exact ⟨rfl, B1.out⟩
set_option maxRecDepth 100000 in
set_option maxHeartbeats 4000000 in
theorem stampsSpendSpec_core (key : Int) (zs : List Int) (nv c s : Int) (l : List (List Int)) (p : Option Addr) (n cap : Nat) (w : World) (hl : Hid (zs.length = 32)) (hr : Hid (∀ z ∈ zs, 0 ≤ z ∧ z ≤ 255)) (hd : Hid (Dgs l)) (hz : Hid (SrcL w p n cap l)) (hk : Hid (KeysAt w)) (HF : decide (n ≤ 40) = true) (m : Nat) (er : Int) (fs : List Int) (hm : m ≤ 5000) (HA : Hid (∀ q : World, Below w.heap.size w q → Calls Tryz.prog 16 #[.slice p n cap, .int .i64 key, .agg (stv zs nv c s).toArray] q fun e w' => ∃ p1 c1, e = .returned (.tuple #[.slice p1 m c1, .int .i64 er]) ∧ SrcD w' p1 m c1 fs ∧ Below q.heap.size q w')) (HB : Hid (∀ q : World, Below w.heap.size w q → Calls Tryz.prog 17 #[.slice p n cap, .int .i64 key, .agg (stv zs nv c s).toArray] q fun e w' => ∃ p1 c1, e = .returned (.tuple #[.slice p1 m c1, .int .i64 er]) ∧ SrcD w' p1 m c1 fs ∧ Below q.heap.size q w')) :
    Calls Tryz.prog 4 #[.slice p n cap, .int .i64 key, .agg (stv zs nv c s).toArray] w fun q w' => q = .returned (.bool true) ∧ Below w.heap.size w w' := by
  have S0 := Lib.hid (SBlk.box w 27 nv c s hl.out)
  have B0 := Lib.hid (bel_alloc1 w (.cells (stv zs nv c s).toArray 27))
  go_enter Tryz.func4, Tryz.ntmps4
  go_wp2_with (first
    | (go_at_call 8; refine (sane37_any _ (Lib.hid (hk.out.below B0.out))).mono ?_; rintro e w1 ⟨rfl, hb⟩; have B1 := Lib.hid (bel_trans B0.out hb); have S1 := Lib.hid (S0.out.bel hb); clear hb)
    | (go_at_call 15; refine (rfew_is p n cap true _ HF).mono ?_; rintro e w' ⟨rfl, rfl⟩)
    | (refine list_loadApi (by rfl) (.tmp 5) rfl w.heap.size 0 rfl zs nv c s hl.out S1.out.1.range ?_)
    | (go_at_call 16; refine (HA.out _ B1.out).mono ?_; rintro e w2 ⟨p1, c1, rfl, hs1, hb⟩; have B2 := Lib.hid (bel_trans B1.out hb); have S2 := Lib.hid (S1.out.bel hb); have R2 := Lib.hid hs1; clear hb hs1)
    | (refine list_loadApi (by rfl) (.tmp 5) rfl w.heap.size 0 rfl zs nv c s hl.out S2.out.1.range ?_)
    | (go_at_call 17; refine (HB.out _ B2.out).mono ?_; rintro e w3 ⟨p2, c2, rfl, hs2, hb⟩; have B3 := Lib.hid (bel_trans B2.out hb); have R3 := Lib.hid (R2.out.below hb); have Q3 := Lib.hid hs2; clear hb hs2)
    | (go_at_call 18; refine (rsame_any p1 p2 m c1 c2 fs _ R3 Q3 (by omega)).mono ?_; rintro e w4 ⟨rfl, hb⟩; have B4 := Lib.hid (bel_trans B3.out hb); clear hb))
  go_ret
  exact ⟨rfl, B4.out⟩
theorem stampsSpendSpec_walk (key : Int) (zs : List Int) (nv c s : Int) (l : List (List Int)) (p : Option Addr) (n cap : Nat) (w : World) (hl : Hid (zs.length = 32)) (hr : Hid (∀ z ∈ zs, 0 ≤ z ∧ z ≤ 255)) (hd : Hid (Dgs l)) (hz : Hid (SrcL w p n cap l)) (hk : Hid (KeysAt w)) :
    Calls Tryz.prog 4 #[.slice p n cap, .int .i64 key, .agg (stv zs nv c s).toArray] w fun q w' => q = .returned (.bool true) ∧ Below w.heap.size w w' := by
  by_cases h40 : n ≤ 40
  case neg => exact stampsSpendSpec_many key zs nv c s l p n cap w hl hr hd hz hk (decide_eq_false h40)
  have hn2 : n ≤ 4000 := by omega
  have HF : decide (n ≤ 40) = true := decide_eq_true h40
  obtain ⟨vb, hv⟩ := isChk key zs nv c s
  have HV := Lib.hid hv
  have nil : ∀ (er : Int) {f : FuncId} {q : World}, (Calls Tryz.prog f #[.slice p n cap, .int .i64 key, .agg (stv zs nv c s).toArray] q fun e w' => e = .returned (.tuple #[.slice none 0 0, .int .i64 er]) ∧ Below q.heap.size q w') → Calls Tryz.prog f #[.slice p n cap, .int .i64 key, .agg (stv zs nv c s).toArray] q fun e w' => ∃ p1 c1, e = .returned (.tuple #[.slice p1 0 c1, .int .i64 er]) ∧ SrcD w' p1 0 c1 [] ∧ Below q.heap.size q w' :=
    fun er _ _ h => h.mono fun e w' he => ⟨none, 0, he.1, srcD_nil w', he.2⟩
  by_cases hs : adjOK l
  case neg =>
    have HS := Lib.hid hs
    refine stampsSpendSpec_core key zs nv c s l p n cap w hl hr hd hz hk HF 0 370 [] (by omega) (Lib.hid fun q hq => nil 370 (spend_uns key zs nv c s l p n cap q hl hr hd (Lib.hid (hz.out.below hq)) hn2 (Lib.hid (hk.out.below hq)) HS)) (Lib.hid fun q hq => nil 370 ?_)
    cases vb with
    | false => exact rspend_bad key zs nv c s l p n cap q hl hr hd (Lib.hid (hz.out.below hq)) hn2 HV
    | true => exact rspend_uns key zs nv c s l p n cap q hl hr hd (Lib.hid (hz.out.below hq)) hn2 HV HS
  have HS := Lib.hid hs
  cases vb with
  | false =>
    exact stampsSpendSpec_core key zs nv c s l p n cap w hl hr hd hz hk HF 0 370 [] (by omega) (Lib.hid fun q hq => nil 370 (spend_wrong key zs nv c s l p n cap q hl hr hd (Lib.hid (hz.out.below hq)) hn2 (Lib.hid (hk.out.below hq)) HS HV)) (Lib.hid fun q hq => nil 370 (rspend_bad key zs nv c s l p n cap q hl hr hd (Lib.hid (hz.out.below hq)) hn2 HV))
  | true =>
    obtain ⟨i, hi⟩ := isPos_ex hs zs
    have HI := Lib.hid hi
    cases hf : hasD l zs with
    | true =>
      have HFD := Lib.hid hf
      exact stampsSpendSpec_core key zs nv c s l p n cap w hl hr hd hz hk HF 0 161 [] (by omega) (Lib.hid fun q hq => nil 161 (spend_found key zs nv c s l p n cap q hl hr hd (Lib.hid (hz.out.below hq)) hn2 (Lib.hid (hk.out.below hq)) HS HV i HI HFD)) (Lib.hid fun q hq => nil 161 (rspend_found key zs nv c s l p n cap q hl hr hd (Lib.hid (hz.out.below hq)) hn2 HV HS HFD))
    | false =>
      have HFD := Lib.hid hf
      have hdp : Dgs (putD l zs i) := hd.out.put hl.out hr.out i
      have hpl : (putD l zs i).length = n + 1 := by rw [putD_len l zs i hi.1, hz.out.1]
      have own : ∀ {f : FuncId} {q : World}, (Calls Tryz.prog f #[.slice p n cap, .int .i64 key, .agg (stv zs nv c s).toArray] q fun e w' => ∃ v', e = .returned (.tuple #[v', .int .i64 0]) ∧ OwnR w' q.heap.size v' (n + 1) (putD l zs i).flatten ∧ Below q.heap.size q w') → Calls Tryz.prog f #[.slice p n cap, .int .i64 key, .agg (stv zs nv c s).toArray] q fun e w' => ∃ p1 c1, e = .returned (.tuple #[.slice p1 (n + 1 : Nat) c1, .int .i64 0]) ∧ SrcD w' p1 (n + 1) c1 (putD l zs i).flatten ∧ Below q.heap.size q w' :=
        fun h => h.mono fun e w' ⟨v', he, ho, hb⟩ => by
          obtain ⟨p1, c1, rfl, hsd⟩ := srcD_own hdp hpl ho
          exact ⟨p1, c1, he, hsd, hb⟩
      exact stampsSpendSpec_core key zs nv c s l p n cap w hl hr hd hz hk HF (n + 1) 0 (putD l zs i).flatten (by omega) (Lib.hid fun q hq => own (spend_ok key zs nv c s l p n cap q hl hr hd (Lib.hid (hz.out.below hq)) hn2 (Lib.hid (hk.out.below hq)) HS HV i HI HFD)) (Lib.hid fun q hq => own (rspend_ok key zs nv c s l p n cap q hl hr hd (Lib.hid (hz.out.below hq)) hn2 HV HS HFD i HI))

namespace stampsSpendSpec
theorem readable : ∀ t ∈ Tryz.f4.params.toList, Tryz.prog.readableRec t = true ∧ t < Tryz.prog.types.size := by
  rw [Tryz.params4]
  intro t ht
  simp only [List.mem_cons, List.not_mem_nil, or_false] at ht
  rcases ht with rfl | rfl | rfl
  all_goals exact ⟨by kernel_rfl, by decide +kernel⟩

set_option maxRecDepth 100000 in
theorem lifted (os : Os) (started : os.Started) (H : Type) (enc : TypeId × Value → H) :
    ReturnsInHanded {} Tryz.checked os 4 .any (fun w args => (Rows.stampsSpendSpecSpec.pre enc Tryz.prog Tryz.f4 [] false w args ∧ laidMetH Tryz.prog laidK w) ∧ sizedMet enc Tryz.prog Tryz.f4 (OpenSpec.ofChange Rows.stampsSpendSpecSpec) false w args)
      (Rows.stampsSpendSpecSpec.post enc Tryz.prog Tryz.f4 false true false false) := by
  refine returnsInHanded_of_change_and (C := Tryz.checked) (X := fun w _ => laidMetH Tryz.prog laidK w) (fun _ _ _ hh h => h.of_heap hh) own_knob started (by kernel_rfl) Tryz.func4
    (ChangeSpec.witness_shaped (enc := enc) (C := Tryz.checked) (os := os) (X := fun w _ => laidMetH Tryz.prog laidK w) false (World.doorLaid Tryz.prog 400 os) #[.slice none 0 0, .int .i64 0, .agg (stv (List.replicate 32 0) 0 0 0).toArray] 8 rfl (World.shaped_of_RefB (by kernel_rfl) (by kernel_rfl)) (by kernel_rfl) (by kernel_rfl) (by kernel_rfl) (door_met os _)) ?_
  intro W base args ds gs before hval0 hW _ _ hL _
  have hval : ∀ (j : Nat) t v, Tryz.f4.params[j]? = some t → args[j]? = some v → Value.okWide Tryz.prog W .any base t v := hval0
  have hW' := hW
  obtain ⟨p, q, hA0, hV, rfl, hfz, hnd⟩ := hW
  have hA : DataW.TrodAll enc Tryz.prog W 0 (fun _ => true) true Tryz.f4.params.toList args.toList ds p := hA0
  rw [Tryz.params4] at hA hval
  obtain ⟨v0, vs0, d0, ds0, p0, q0, hargs, rfl, rfl, h0, r0⟩ := trodAll_cons hA
  obtain ⟨v1, vs1, d1, ds1, p1, q1, rfl, rfl, rfl, h1, r1⟩ := trodAll_cons r0
  obtain ⟨v2, vs2, d2, ds2, p2, q2, rfl, rfl, rfl, h2, r2⟩ := trodAll_cons r1
  obtain ⟨rfl, rfl, rfl⟩ := trodAll_nil r2
  obtain rfl : args = #[v0, v1, v2] := by cases args; simp_all
  obtain ⟨rfl, rfl⟩ := trodVars_none hV
  obtain ⟨s0, n0, c0, l0, rfl, w0, x0⟩ := open_digs (hval 0 36 v0 rfl rfl) h0
  obtain ⟨a1, rfl, rfl, rfl, w1⟩ := open_int Tryz.underlying3 (hval 1 3 v1 rfl rfl) h1
  obtain ⟨z2, n2, c2, s2, rfl, w2, x2⟩ := open_stamp (hval 2 27 v2 rfl rfl) h2
  have hK := of_laid hL
  clear hA0 hval0
  refine (stampsSpendSpec_walk a1 z2 n2 c2 s2 l0 s0 n0 c0 W (Lib.hid w2) (Lib.hid x2) (Lib.hid x0) (Lib.hid w0) (Lib.hid hK)).mono fun e W' ⟨he, hb⟩ => ?_
  subst he
  exact ⟨_, rfl, law_post laid_out readable rfl rfl Tryz.underlying4 hW' rfl rfl rfl hb⟩

theorem over : Rows.stampsSpendSpecRow.holds Tryz.pinned (OpenSpec.ofChange Rows.stampsSpendSpecSpec) :=
  OpenClaim.holds_of_wide 4 Tryz.f4 rfl rfl rfl rfl rfl rfl rfl ⟨rfl, rfl, rfl, rfl, rfl⟩ rfl rfl rfl rfl rfl (by kernel_rfl) Tryz.func4 (by kernel_rfl)
    (of_decide_eq_true (by kernel_rfl)) (by unfold Func.isWrapper; first | (rw [if_pos (by decide +kernel)]; kernel_rfl) | (rw [if_neg (by decide +kernel)]; exact ⟨rfl, rfl⟩))
    (fun os started H enc _ => lifted os started H enc)

/-- the statement: the tied card -/
theorem proved : Rows.StampsSpendSpecCardSaid :=
  Claim7.holds_tied_plain_at .later [] [.data] true (true, "08aa77cb6b5e7032e714fb6e8234f1d1e81e8e126b602c27ba0bf5d0ec3bd074") true
    over (fun _ h => by cases h) (by kernel_rfl) (fun _ h => by cases h) stampsSpendSpec_row_tie rfl ⟨rfl, rfl⟩ (by kernel_rfl) rfl
    (fun f fn hf hfn => by
      obtain rfl : f = 4 := Option.some.inj ((show Tryz.prog.funcNamed "franking/frankinglaw37.StampsSpendSpec" = some 4 by kernel_rfl).symm.trans hf) |>.symm
      obtain rfl : fn = Tryz.f4 := (Option.some.inj (Tryz.func4.symm.trans hfn)).symm
      exact ⟨by kernel_rfl, fun j t ht => by
        rw [Tryz.params4] at ht
        have hm : t ∈ [36, 3, 27] := by simpa using Array.mem_of_getElem? ht
        have hall : ([36, 3, 27].all fun u => !Tryz.prog.wantsStandIn u) = true := by kernel_rfl
        exact (show Tryz.prog.wantsStandIn t = false by simpa using List.all_eq_true.1 hall t hm)⟩)
    (by kernel_rfl)
end stampsSpendSpec
end Go.Proofs.YtjdkdhpippapmaaGreatDoor
