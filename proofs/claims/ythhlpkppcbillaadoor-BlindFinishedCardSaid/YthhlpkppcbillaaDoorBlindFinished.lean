/- Finish succeeds exactly if the challenge less v, and the answer plus u, are a signature that Verify accepts, which it returns then. No condition. -/
import Derived.Test.YthhlpkppcbillaaDoorBld
import Derived.Test.YthhlpkppcbillaaDoorSigCard
import Derived.Test.YthhlpkppcbillaaDoorSignRight
namespace Go.Proofs.YthhlpkppcbillaaDoor
open Go.ChangeShapes Go.WideShapes Go.ChangeAt Go.RowKit Go.WideElems Go.Shelf
set_option linter.unusedVariables false
set_option linter.unusedSimpArgs false

set_option maxRecDepth 100000 in
set_option maxHeartbeats 4000000 in
theorem blindFin_a (key r : Int) (p : Option Addr) (m cp : Nat) (bs : List Int) (u v s : Int) (w : World) (hz : Hid (SrcW w p m cp bs)) (hk : Hid (KeysAt w)) (hm : ¬ m ≤ 600) : Calls Tryd.prog 9 #[.int .i64 key, .int .i64 r, .slice p m cp, .int .i64 u, .int .i64 v, .int .i64 s] w fun q w' => q = .returned (.bool true) ∧ Below w.heap.size w w' := by
  have B0 := Lib.hid (Below.refl w.heap.size w)
  go_enter Tryd.func9, Tryd.ntmps9
  go_wp2_with (first
    | (go_at_call 23; ((with_reducible refine (sane15_any _ (Lib.hid (hk.out.below B0.out))).mono ?_); rintro q W1 ⟨rfl, hb⟩; have B1 := Lib.hid (bel_trans B0.out hb); clear hb)))
  go_ret
  exact ⟨rfl, B1.out⟩
theorem bvalid_is (x : Int) (v : Bool) (w : World) (h : Hid (elB x = v)) : Calls Tryd.prog 17 #[.int .i64 x] w fun e w' => e = .returned (.bool v) ∧ w = w' := by
  rw [← h.out]; exact valid_any x w
set_option maxRecDepth 100000 in
set_option maxHeartbeats 4000000 in
theorem blindFin_b (key r : Int) (p : Option Addr) (m cp : Nat) (bs : List Int) (u v s : Int) (w : World) (hz : Hid (SrcW w p m cp bs)) (hk : Hid (KeysAt w)) (hm : m ≤ 600) (hbad : Hid ((elB key && elB r) = false)) (hk1 : Hid (elB key = false)) : Calls Tryd.prog 9 #[.int .i64 key, .int .i64 r, .slice p m cp, .int .i64 u, .int .i64 v, .int .i64 s] w fun q w' => q = .returned (.bool true) ∧ Below w.heap.size w w' := by
  have B0 := Lib.hid (Below.refl w.heap.size w)
  have heq := fun w => eqSig 0 0 0 0 w
  simp only [BEq.rfl, Bool.and_self] at heq
  go_enter Tryd.func9, Tryd.ntmps9
  go_upto_region 7 with (first
    | (go_at_call 23; ((with_reducible refine (sane15_any _ (Lib.hid (hk.out.below B0.out))).mono ?_); rintro q W1 ⟨rfl, hb⟩; have B1 := Lib.hid (bel_trans B0.out hb); clear hb))
    | (go_at_call 25; ((with_reducible refine (ask_no key r u v p m cp _ hbad).mono ?_); rintro q W2 ⟨rfl, hb⟩; have B2 := Lib.hid (bel_trans B1.out hb); clear hb))
    | (go_at_call 27; ((with_reducible refine (finish_no key r u v s p m cp _ hbad).mono ?_); rintro q W3 ⟨rfl, hb⟩; have B3 := Lib.hid (bel_trans B2.out hb); clear hb)))
  have hb := bel_alloc1 W3 (.cells #[.int .i64 0, .int .i64 0] 24)
  have B4 := Lib.hid (bel_trans B3.out hb)
  have R4 := Lib.hid (Blk.new W3 #[.int .i64 0, .int .i64 0] 24)
  clear hb
  generalize World.alloc W3 _ = W4 at B4 R4 ⊢
  generalize W3.heap.size = nR at R4 ⊢
  have cR0 := R4.out.cell 0
  have cR1 := R4.out.cell 1
  go_wp2_with (first
    | (go_at_call 17; ((with_reducible refine (bvalid_is key false _ hk1).mono ?_); rintro q w' ⟨rfl, rfl⟩)))
  go_ret
  exact ⟨rfl, B4.out⟩
set_option maxRecDepth 100000 in
set_option maxHeartbeats 4000000 in
theorem blindFin_c (key r : Int) (p : Option Addr) (m cp : Nat) (bs : List Int) (u v s : Int) (w : World) (hz : Hid (SrcW w p m cp bs)) (hk : Hid (KeysAt w)) (hm : m ≤ 600) (hbad : Hid ((elB key && elB r) = false)) (hk1 : Hid (elB key = true)) (hr1 : Hid (elB r = false)) : Calls Tryd.prog 9 #[.int .i64 key, .int .i64 r, .slice p m cp, .int .i64 u, .int .i64 v, .int .i64 s] w fun q w' => q = .returned (.bool true) ∧ Below w.heap.size w w' := by
  have B0 := Lib.hid (Below.refl w.heap.size w)
  have heq := fun w => eqSig 0 0 0 0 w
  simp only [BEq.rfl, Bool.and_self] at heq
  go_enter Tryd.func9, Tryd.ntmps9
  go_upto_region 7 with (first
    | (go_at_call 23; ((with_reducible refine (sane15_any _ (Lib.hid (hk.out.below B0.out))).mono ?_); rintro q W1 ⟨rfl, hb⟩; have B1 := Lib.hid (bel_trans B0.out hb); clear hb))
    | (go_at_call 25; ((with_reducible refine (ask_no key r u v p m cp _ hbad).mono ?_); rintro q W2 ⟨rfl, hb⟩; have B2 := Lib.hid (bel_trans B1.out hb); clear hb))
    | (go_at_call 27; ((with_reducible refine (finish_no key r u v s p m cp _ hbad).mono ?_); rintro q W3 ⟨rfl, hb⟩; have B3 := Lib.hid (bel_trans B2.out hb); clear hb)))
  have hb := bel_alloc1 W3 (.cells #[.int .i64 0, .int .i64 0] 24)
  have B4 := Lib.hid (bel_trans B3.out hb)
  have R4 := Lib.hid (Blk.new W3 #[.int .i64 0, .int .i64 0] 24)
  clear hb
  generalize World.alloc W3 _ = W4 at B4 R4 ⊢
  generalize W3.heap.size = nR at R4 ⊢
  have cR0 := R4.out.cell 0
  have cR1 := R4.out.cell 1
  go_wp2_with (first
    | (go_at_call 17; ((with_reducible refine (bvalid_is key true _ hk1).mono ?_); rintro q w' ⟨rfl, rfl⟩))
    | (go_at_call 17; ((with_reducible refine (bvalid_is r false _ hr1).mono ?_); rintro q w' ⟨rfl, rfl⟩)))
  go_ret
  exact ⟨rfl, B4.out⟩
theorem rmod_is (n r : Int) (w : World) (h : Hid (modQ n = r)) : Calls Tryd.prog 21 #[.int .i64 n] w fun e w' => e = .returned (.int .i64 r) ∧ w = w' := by
  rw [← h.out]; exact rmod_any n w
set_option maxRecDepth 100000 in
set_option maxHeartbeats 4000000 in
theorem blindFin_d (key r : Int) (p : Option Addr) (m cp : Nat) (bs : List Int) (u v s : Int) (w : World) (hz : Hid (SrcW w p m cp bs)) (hk : Hid (KeysAt w)) (hm : m ≤ 600) (hk1 : Hid (elB key = true)) (hr1 : Hid (elB r = true)) (HT : Hid (txOk bs)) (pt h c S mv ms mu : Int) (HBP : Hid (IsBp key r u v pt)) (HCH : Hid (IsCh pt key bs h)) (HC : Hid (modQ (h + v) = c)) (HS : Hid (modQ (s + u) = S)) (HV : Hid (IsVer key bs h S false)) (HMV : Hid (modQ v = mv)) (HMH : Hid (modQ (c - mv) = h)) (HMS : Hid (modQ s = ms)) (HMU : Hid (modQ u = mu)) (HMM : Hid ((ms + mu) % 1073741789 = S)) : Calls Tryd.prog 9 #[.int .i64 key, .int .i64 r, .slice p m cp, .int .i64 u, .int .i64 v, .int .i64 s] w fun q w' => q = .returned (.bool true) ∧ Below w.heap.size w w' := by
  have B0 := Lib.hid (Below.refl w.heap.size w)
  have heq := fun w => eqSig 0 0 0 0 w
  simp only [BEq.rfl, Bool.and_self] at heq
  have mv0 := modQ_rng v
  rw [HMV.out] at mv0
  obtain ⟨mv0, mv1⟩ := mv0
  have ms0 := modQ_rng s
  rw [HMS.out] at ms0
  obtain ⟨ms0, ms1⟩ := ms0
  have mu0 := modQ_rng u
  rw [HMU.out] at mu0
  obtain ⟨mu0, mu1⟩ := mu0
  have c0 := modQ_rng (h + v)
  rw [HC.out] at c0
  obtain ⟨c0, c1⟩ := c0
  go_enter Tryd.func9, Tryd.ntmps9
  go_upto_region 7 with (first
    | (go_at_call 23; ((with_reducible refine (sane15_any _ (Lib.hid (hk.out.below B0.out))).mono ?_); rintro q W1 ⟨rfl, hb⟩; have B1 := Lib.hid (bel_trans B0.out hb); clear hb))
    | (go_at_call 25; ((with_reducible refine (ask_yes key r u v pt h c p m cp bs _ hk1 hr1 HT (Lib.hid (hz.out.below B1.out)) (Lib.hid (hk.out.below B1.out)) HBP HCH HC).mono ?_); rintro q W2 ⟨rfl, hb⟩; have B2 := Lib.hid (bel_trans B1.out hb); clear hb))
    | (go_at_call 27; ((with_reducible refine (finish_bad key r u v s pt h S p m cp bs _ hk1 hr1 HT (Lib.hid (hz.out.below B2.out)) (Lib.hid (hk.out.below B2.out)) HBP HCH HS HV).mono ?_); rintro q W3 ⟨rfl, hb⟩; have B3 := Lib.hid (bel_trans B2.out hb); clear hb)))
  have hb := bel_alloc1 W3 (.cells #[.int .i64 0, .int .i64 0] 24)
  have B4 := Lib.hid (bel_trans B3.out hb)
  have R4 := Lib.hid (Blk.new W3 #[.int .i64 0, .int .i64 0] 24)
  clear hb
  generalize World.alloc W3 _ = W4 at B4 R4 ⊢
  generalize W3.heap.size = nR at R4 ⊢
  have cR0 := R4.out.cell 0
  have cR1 := R4.out.cell 1
  go_upto_region 10 with (first
    | (go_at_call 17; ((with_reducible refine (bvalid_is key true _ hk1).mono ?_); rintro q w' ⟨rfl, rfl⟩))
    | (go_at_call 17; ((with_reducible refine (bvalid_is r true _ hr1).mono ?_); rintro q w' ⟨rfl, rfl⟩))
    | (go_at_call 21; ((with_reducible refine (rmod_is v mv _ HMV).mono ?_); rintro q w' ⟨rfl, rfl⟩))
    | (go_at_call 21; ((with_reducible refine (rmod_is (c - mv) h _ HMH).mono ?_); rintro q w' ⟨rfl, rfl⟩))
    | (go_at_call 21; ((with_reducible refine (rmod_is s ms _ HMS).mono ?_); rintro q w' ⟨rfl, rfl⟩))
    | (go_at_call 21; ((with_reducible refine (rmod_is u mu _ HMU).mono ?_); rintro q w' ⟨rfl, rfl⟩)))
  rw [HMM.out]
  have hb := bel_alloc1 W4 (.cells #[.int .i64 h, .int .i64 S] 24)
  have B5 := Lib.hid (bel_trans B4.out hb)
  have Y5 := Lib.hid (Blk.new W4 #[.int .i64 h, .int .i64 S] 24)
  have R5 := Lib.hid (R4.out.below hb R4.out.lt)
  clear hb
  generalize World.alloc W4 _ = W5 at B5 Y5 R5 ⊢
  generalize W4.heap.size = nY at Y5 ⊢
  have cR0 := R5.out.cell 0
  have cR1 := R5.out.cell 1
  have cY0 := Y5.out.cell 0
  have cY1 := Y5.out.cell 1
  go_wp2_with (first
    | (go_at_call 14; ((with_reducible refine (verify_is key h S p m cp bs _ HT (Lib.hid (hz.out.below B5.out)) (Lib.hid (hk.out.below B5.out)) false HV).mono ?_); rintro q W6 ⟨rfl, hb⟩; have B6 := Lib.hid (bel_trans B5.out hb); have R6 := Lib.hid (R5.out.below hb R5.out.lt); have Y6 := Lib.hid (Y5.out.below hb Y5.out.lt); have cR0 := R6.out.cell 0; have cR1 := R6.out.cell 1; have cY0 := Y6.out.cell 0; have cY1 := Y6.out.cell 1; clear hb)))
  go_ret
  exact ⟨rfl, B6.out⟩
set_option maxRecDepth 100000 in
set_option maxHeartbeats 4000000 in
theorem blindFin_e (key r : Int) (p : Option Addr) (m cp : Nat) (bs : List Int) (u v s : Int) (w : World) (hz : Hid (SrcW w p m cp bs)) (hk : Hid (KeysAt w)) (hm : m ≤ 600) (hk1 : Hid (elB key = true)) (hr1 : Hid (elB r = true)) (HT : Hid (txOk bs)) (pt h c S mv ms mu : Int) (HBP : Hid (IsBp key r u v pt)) (HCH : Hid (IsCh pt key bs h)) (HC : Hid (modQ (h + v) = c)) (HS : Hid (modQ (s + u) = S)) (HV : Hid (IsVer key bs h S true)) (HMV : Hid (modQ v = mv)) (HMH : Hid (modQ (c - mv) = h)) (HMS : Hid (modQ s = ms)) (HMU : Hid (modQ u = mu)) (HMM : Hid ((ms + mu) % 1073741789 = S)) : Calls Tryd.prog 9 #[.int .i64 key, .int .i64 r, .slice p m cp, .int .i64 u, .int .i64 v, .int .i64 s] w fun q w' => q = .returned (.bool true) ∧ Below w.heap.size w w' := by
  have B0 := Lib.hid (Below.refl w.heap.size w)
  have heq := fun w => eqSig h S h S w
  simp only [BEq.rfl, Bool.and_self] at heq
  have mv0 := modQ_rng v
  rw [HMV.out] at mv0
  obtain ⟨mv0, mv1⟩ := mv0
  have ms0 := modQ_rng s
  rw [HMS.out] at ms0
  obtain ⟨ms0, ms1⟩ := ms0
  have mu0 := modQ_rng u
  rw [HMU.out] at mu0
  obtain ⟨mu0, mu1⟩ := mu0
  have c0 := modQ_rng (h + v)
  rw [HC.out] at c0
  obtain ⟨c0, c1⟩ := c0
  go_enter Tryd.func9, Tryd.ntmps9
  go_upto_region 7 with (first
    | (go_at_call 23; ((with_reducible refine (sane15_any _ (Lib.hid (hk.out.below B0.out))).mono ?_); rintro q W1 ⟨rfl, hb⟩; have B1 := Lib.hid (bel_trans B0.out hb); clear hb))
    | (go_at_call 25; ((with_reducible refine (ask_yes key r u v pt h c p m cp bs _ hk1 hr1 HT (Lib.hid (hz.out.below B1.out)) (Lib.hid (hk.out.below B1.out)) HBP HCH HC).mono ?_); rintro q W2 ⟨rfl, hb⟩; have B2 := Lib.hid (bel_trans B1.out hb); clear hb))
    | (go_at_call 27; ((with_reducible refine (finish_yes key r u v s pt h S p m cp bs _ hk1 hr1 HT (Lib.hid (hz.out.below B2.out)) (Lib.hid (hk.out.below B2.out)) HBP HCH HS HV).mono ?_); rintro q W3 ⟨rfl, hb⟩; have B3 := Lib.hid (bel_trans B2.out hb); clear hb)))
  have hb := bel_alloc1 W3 (.cells #[.int .i64 h, .int .i64 S] 24)
  have B4 := Lib.hid (bel_trans B3.out hb)
  have R4 := Lib.hid (Blk.new W3 #[.int .i64 h, .int .i64 S] 24)
  clear hb
  generalize World.alloc W3 _ = W4 at B4 R4 ⊢
  generalize W3.heap.size = nR at R4 ⊢
  have cR0 := R4.out.cell 0
  have cR1 := R4.out.cell 1
  go_upto_region 10 with (first
    | (go_at_call 17; ((with_reducible refine (bvalid_is key true _ hk1).mono ?_); rintro q w' ⟨rfl, rfl⟩))
    | (go_at_call 17; ((with_reducible refine (bvalid_is r true _ hr1).mono ?_); rintro q w' ⟨rfl, rfl⟩))
    | (go_at_call 21; ((with_reducible refine (rmod_is v mv _ HMV).mono ?_); rintro q w' ⟨rfl, rfl⟩))
    | (go_at_call 21; ((with_reducible refine (rmod_is (c - mv) h _ HMH).mono ?_); rintro q w' ⟨rfl, rfl⟩))
    | (go_at_call 21; ((with_reducible refine (rmod_is s ms _ HMS).mono ?_); rintro q w' ⟨rfl, rfl⟩))
    | (go_at_call 21; ((with_reducible refine (rmod_is u mu _ HMU).mono ?_); rintro q w' ⟨rfl, rfl⟩)))
  rw [HMM.out]
  have hb := bel_alloc1 W4 (.cells #[.int .i64 h, .int .i64 S] 24)
  have B5 := Lib.hid (bel_trans B4.out hb)
  have Y5 := Lib.hid (Blk.new W4 #[.int .i64 h, .int .i64 S] 24)
  have R5 := Lib.hid (R4.out.below hb R4.out.lt)
  clear hb
  generalize World.alloc W4 _ = W5 at B5 Y5 R5 ⊢
  generalize W4.heap.size = nY at Y5 ⊢
  have cR0 := R5.out.cell 0
  have cR1 := R5.out.cell 1
  have cY0 := Y5.out.cell 0
  have cY1 := Y5.out.cell 1
  go_wp2_with (first
    | (go_at_call 14; ((with_reducible refine (verify_is key h S p m cp bs _ HT (Lib.hid (hz.out.below B5.out)) (Lib.hid (hk.out.below B5.out)) true HV).mono ?_); rintro q W6 ⟨rfl, hb⟩; have B6 := Lib.hid (bel_trans B5.out hb); have R6 := Lib.hid (R5.out.below hb R5.out.lt); have Y6 := Lib.hid (Y5.out.below hb Y5.out.lt); have cR0 := R6.out.cell 0; have cR1 := R6.out.cell 1; have cY0 := Y6.out.cell 0; have cY1 := Y6.out.cell 1; clear hb)))
  go_ret
  exact ⟨rfl, B6.out⟩
theorem blindFinished_walk (key r : Int) (p : Option Addr) (m cp : Nat) (bs : List Int) (u v s : Int) (w : World) (hz : Hid (SrcW w p m cp bs)) (hk : Hid (KeysAt w)) (hrr : ∀ z ∈ bs, 0 ≤ z ∧ z ≤ 255) : Calls Tryd.prog 9 #[.int .i64 key, .int .i64 r, .slice p m cp, .int .i64 u, .int .i64 v, .int .i64 s] w fun q w' => q = .returned (.bool true) ∧ Below w.heap.size w w' := by
  by_cases hm : m ≤ 600
  case neg => exact blindFin_a key r p m cp bs u v s w hz hk hm
  have HT := Lib.hid (tx_of hz.out hrr hm)
  cases h1 : elB key with
  | false => exact blindFin_b key r p m cp bs u v s w hz hk hm (Lib.hid (by rw [h1]; rfl)) (Lib.hid h1)
  | true =>
    cases h2 : elB r with
    | false => exact blindFin_c key r p m cp bs u v s w hz hk hm (Lib.hid (by rw [h1, h2]; rfl)) (Lib.hid h1) (Lib.hid h2)
    | true =>
      obtain ⟨pt, hp⟩ := isBp key r u v
      obtain ⟨h, hh⟩ := isCh pt key bs
      obtain ⟨x, hv⟩ := isVer key bs h (modQ (s + u))
      have hr := hh.rng
      cases x with
      | false => exact blindFin_d key r p m cp bs u v s w hz hk hm (Lib.hid h1) (Lib.hid h2) HT pt h _ _ _ _ _ (Lib.hid hp) (Lib.hid hh) (Lib.hid rfl) (Lib.hid rfl) (Lib.hid hv) (Lib.hid rfl) (Lib.hid (by unfold modQ; omega)) (Lib.hid rfl) (Lib.hid rfl) (Lib.hid (by unfold modQ; omega))
      | true => exact blindFin_e key r p m cp bs u v s w hz hk hm (Lib.hid h1) (Lib.hid h2) HT pt h _ _ _ _ _ (Lib.hid hp) (Lib.hid hh) (Lib.hid rfl) (Lib.hid rfl) (Lib.hid hv) (Lib.hid rfl) (Lib.hid (by unfold modQ; omega)) (Lib.hid rfl) (Lib.hid rfl) (Lib.hid (by unfold modQ; omega))

namespace blindFinished
theorem readable : ∀ t ∈ Tryd.f9.params.toList, Tryd.prog.readableRec t = true ∧ t < Tryd.prog.types.size := by
  rw [Tryd.params9]
  intro t ht
  simp only [List.mem_cons, List.not_mem_nil, or_false] at ht
  rcases ht with rfl | rfl | rfl | rfl | rfl | rfl
  all_goals exact ⟨by kernel_rfl, by decide +kernel⟩

set_option maxRecDepth 100000 in
theorem lifted (os : Os) (started : os.Started) (H : Type) (enc : TypeId × Value → H) :
    ReturnsInHanded {} Tryd.checked os 9 .any (fun w args => (Rows.blindFinishedSpec.pre enc Tryd.prog Tryd.f9 [] false w args ∧ laidMetH Tryd.prog laidK w) ∧ sizedMet enc Tryd.prog Tryd.f9 (OpenSpec.ofChange Rows.blindFinishedSpec) false w args)
      (Rows.blindFinishedSpec.post enc Tryd.prog Tryd.f9 false true false false) := by
  refine returnsInHanded_of_change_and (C := Tryd.checked) (X := fun w _ => laidMetH Tryd.prog laidK w) (fun _ _ _ hh h => h.of_heap hh) own_knob started (by kernel_rfl) Tryd.func9
    (ChangeSpec.witness_shaped (enc := enc) (C := Tryd.checked) (os := os) (X := fun w _ => laidMetH Tryd.prog laidK w) false (World.doorLaid Tryd.prog 400 os) #[.int .i64 0, .int .i64 0, .slice none 0 0, .int .i64 0, .int .i64 0, .int .i64 0] 8 rfl (World.shaped_of_RefB (by kernel_rfl) (by kernel_rfl)) (by kernel_rfl) (by kernel_rfl) (by kernel_rfl) (door_met os _)) ?_
  intro W base args ds gs before hval0 hW _ _ hL _
  have hval : ∀ (j : Nat) t v, Tryd.f9.params[j]? = some t → args[j]? = some v → Value.okWide Tryd.prog W .any base t v := hval0
  have hW' := hW
  obtain ⟨p, q, hA0, hV, rfl, hfz, hnd⟩ := hW
  have hA : DataW.TrodAll enc Tryd.prog W 0 (fun _ => true) true Tryd.f9.params.toList args.toList ds p := hA0
  rw [Tryd.params9] at hA hval
  obtain ⟨v0, vs0, d0, ds0, p0, q0, hargs, rfl, rfl, h0, r0⟩ := trodAll_cons hA
  obtain ⟨v1, vs1, d1, ds1, p1, q1, rfl, rfl, rfl, h1, r1⟩ := trodAll_cons r0
  obtain ⟨v2, vs2, d2, ds2, p2, q2, rfl, rfl, rfl, h2, r2⟩ := trodAll_cons r1
  obtain ⟨v3, vs3, d3, ds3, p3, q3, rfl, rfl, rfl, h3, r3⟩ := trodAll_cons r2
  obtain ⟨v4, vs4, d4, ds4, p4, q4, rfl, rfl, rfl, h4, r4⟩ := trodAll_cons r3
  obtain ⟨v5, vs5, d5, ds5, p5, q5, rfl, rfl, rfl, h5, r5⟩ := trodAll_cons r4
  obtain ⟨rfl, rfl, rfl⟩ := trodAll_nil r5
  obtain rfl : args = #[v0, v1, v2, v3, v4, v5] := by cases args; simp_all
  obtain ⟨rfl, rfl⟩ := trodVars_none hV
  obtain ⟨a0, rfl, rfl, rfl, w0⟩ := open_int Tryd.underlying3 (hval 0 3 v0 rfl rfl) h0
  obtain ⟨a1, rfl, rfl, rfl, w1⟩ := open_int Tryd.underlying3 (hval 1 3 v1 rfl rfl) h1
  obtain ⟨s2, n2, c2, z2, rfl, w2, x2, y2, u2⟩ := open_src Tryd.underlying22 Tryd.underlying5 (by kernel_rfl) (hval 2 22 v2 rfl rfl) h2
  obtain ⟨a3, rfl, rfl, rfl, w3⟩ := open_int Tryd.underlying3 (hval 3 3 v3 rfl rfl) h3
  obtain ⟨a4, rfl, rfl, rfl, w4⟩ := open_int Tryd.underlying3 (hval 4 3 v4 rfl rfl) h4
  obtain ⟨a5, rfl, rfl, rfl, w5⟩ := open_int Tryd.underlying3 (hval 5 3 v5 rfl rfl) h5
  have hK := of_laid hL
  clear hA0 hval0
  refine (blindFinished_walk a0 a1 s2 n2 c2 z2 a3 a4 a5 W (Lib.hid w2) (Lib.hid hK) x2).mono fun e W' ⟨he, hb⟩ => ?_
  subst he
  exact ⟨_, rfl, law_post laid_out readable rfl rfl Tryd.underlying4 hW' rfl rfl rfl hb⟩

theorem over : Rows.blindFinishedRow.holds Tryd.pinned (OpenSpec.ofChange Rows.blindFinishedSpec) :=
  OpenClaim.holds_of_wide 9 Tryd.f9 rfl rfl rfl rfl rfl rfl rfl ⟨rfl, rfl, rfl, rfl, rfl⟩ rfl rfl rfl rfl rfl (by kernel_rfl) Tryd.func9 (by kernel_rfl)
    (of_decide_eq_true (by kernel_rfl)) (by unfold Func.isWrapper; first | (rw [if_pos (by decide +kernel)]; kernel_rfl) | (rw [if_neg (by decide +kernel)]; exact ⟨rfl, rfl⟩))
    (fun os started H enc _ => lifted os started H enc)

/-- the statement: the tied card -/
theorem proved : Rows.BlindFinishedCardSaid :=
  Claim7.holds_tied_plain_at .later [] [.data] true (true, "bc6094e853e3747432043714df9a4ae338abb82d89132539a305f2be281f9fc0") true
    over (fun _ h => by cases h) (by kernel_rfl) (fun _ h => by cases h) blindFinished_row_tie rfl ⟨rfl, rfl⟩ (by kernel_rfl) rfl
    (fun f fn hf hfn => by
      obtain rfl : f = 9 := Option.some.inj ((show Tryd.prog.funcNamed "franking/frankinglaw15.BlindFinished" = some 9 by kernel_rfl).symm.trans hf) |>.symm
      obtain rfl : fn = Tryd.f9 := (Option.some.inj (Tryd.func9.symm.trans hfn)).symm
      exact ⟨by kernel_rfl, fun j t ht => by
        rw [Tryd.params9] at ht
        have hm : t ∈ [3, 3, 22, 3, 3, 3] := by simpa using Array.mem_of_getElem? ht
        have hall : ([3, 3, 22, 3, 3, 3].all fun u => !Tryd.prog.wantsStandIn u) = true := by kernel_rfl
        exact (show Tryd.prog.wantsStandIn t = false by simpa using List.all_eq_true.1 hall t hm)⟩)
    (by kernel_rfl)
end blindFinished
end Go.Proofs.YthhlpkppcbillaaDoor
