/- Multiples of Q that are added to u, v, c and s change nothing. No condition. -/
import Derived.Test.YthhlpkppcbillaaDoorBld
import Derived.Test.YthhlpkppcbillaaDoorSigCard
import Derived.Test.YthhlpkppcbillaaDoorSignRight
namespace Go.Proofs.YthhlpkppcbillaaDoor
open Go.ChangeShapes Go.WideShapes Go.ChangeAt Go.RowKit Go.WideElems Go.Shelf
set_option linter.unusedVariables false
set_option linter.unusedSimpArgs false

theorem bvalid2_is (x : Int) (v : Bool) (w : World) (h : Hid (elB x = v)) : Calls Tryd.prog 17 #[.int .i64 x] w fun e w' => e = .returned (.bool v) ∧ w = w' := by
  rw [← h.out]; exact valid_any x w
theorem rmod2_is (n r : Int) (w : World) (h : Hid (modQ n = r)) : Calls Tryd.prog 21 #[.int .i64 n] w fun e w' => e = .returned (.int .i64 r) ∧ w = w' := by
  rw [← h.out]; exact rmod_any n w
set_option maxRecDepth 100000 in
set_option maxHeartbeats 4000000 in
theorem blindMod_a (key r : Int) (p : Option Addr) (m cp : Nat) (bs : List Int) (u v c s x n : Int) (w : World) (hz : Hid (SrcW w p m cp bs)) (hk : Hid (KeysAt w)) (hm : ¬ m ≤ 600) : Calls Tryd.prog 10 #[.int .i64 key, .int .i64 r, .slice p m cp, .int .i64 u, .int .i64 v, .int .i64 c, .int .i64 s, .int .i64 x, .int .i64 n] w fun q w' => q = .returned (.bool true) ∧ Below w.heap.size w w' := by
  have B0 := Lib.hid (Below.refl w.heap.size w)
  go_enter Tryd.func10, Tryd.ntmps10
  go_wp2_with (first
    | (go_at_call 23; ((with_reducible refine (sane15_any _ (Lib.hid (hk.out.below B0.out))).mono ?_); rintro q W1 ⟨rfl, hb⟩; have B1 := Lib.hid (bel_trans B0.out hb); clear hb)))
  go_ret
  exact ⟨rfl, B1.out⟩
set_option maxRecDepth 100000 in
set_option maxHeartbeats 4000000 in
theorem blindMod_bno (key r : Int) (p : Option Addr) (m cp : Nat) (bs : List Int) (u v c s x n : Int) (w : World) (hz : Hid (SrcW w p m cp bs)) (hk : Hid (KeysAt w)) (hm : m ≤ 600) (mu mv mc ms : Int) (HMU : Hid (modQ u = mu)) (HMV : Hid (modQ v = mv)) (HMC : Hid (modQ c = mc)) (HMS : Hid (modQ s = ms)) (hbad : Hid ((elB key && elB r) = false)) (hans : Hid ((secB x && secB n) = false)) : Calls Tryd.prog 10 #[.int .i64 key, .int .i64 r, .slice p m cp, .int .i64 u, .int .i64 v, .int .i64 c, .int .i64 s, .int .i64 x, .int .i64 n] w fun q w' => q = .returned (.bool true) ∧ Below w.heap.size w w' := by
  have B0 := Lib.hid (Below.refl w.heap.size w)
  have heq := fun w => eqSig 0 0 0 0 w
  simp only [BEq.rfl, Bool.and_self] at heq
  have mu0 := modQ_rng u
  rw [HMU.out] at mu0
  obtain ⟨mu0, mu1⟩ := mu0
  have mv0 := modQ_rng v
  rw [HMV.out] at mv0
  obtain ⟨mv0, mv1⟩ := mv0
  have mc0 := modQ_rng c
  rw [HMC.out] at mc0
  obtain ⟨mc0, mc1⟩ := mc0
  have ms0 := modQ_rng s
  rw [HMS.out] at ms0
  obtain ⟨ms0, ms1⟩ := ms0
  go_enter Tryd.func10, Tryd.ntmps10
  go_upto_region 10 with (first
    | (go_at_call 23; ((with_reducible refine (sane15_any _ (Lib.hid (hk.out.below B0.out))).mono ?_); rintro q W1 ⟨rfl, hb⟩; have B1 := Lib.hid (bel_trans B0.out hb); clear hb))
    | (go_at_call 25; ((with_reducible refine (ask_no key r u v p m cp _ hbad).mono ?_); rintro q W2 ⟨rfl, hb⟩; have B2 := Lib.hid (bel_trans B1.out hb); clear hb))
    | (go_at_call 21; ((with_reducible refine (rmod2_is u mu _ HMU).mono ?_); rintro q w' ⟨rfl, rfl⟩))
    | (go_at_call 21; ((with_reducible refine (rmod2_is v mv _ HMV).mono ?_); rintro q w' ⟨rfl, rfl⟩))
    | (go_at_call 21; ((with_reducible refine (rmod2_is c mc _ HMC).mono ?_); rintro q w' ⟨rfl, rfl⟩))
    | (go_at_call 21; ((with_reducible refine (rmod2_is s ms _ HMS).mono ?_); rintro q w' ⟨rfl, rfl⟩))
    | (go_at_call 25; ((with_reducible refine (ask_no key r mu (mv - 1073741789) p m cp _ hbad).mono ?_); rintro q W3 ⟨rfl, hb⟩; have B3 := Lib.hid (bel_trans B2.out hb); clear hb))
    | (go_at_call 26; ((with_reducible refine (answer_no x n c _ hans).mono ?_); rintro q W4 ⟨rfl, hb⟩; have B4 := Lib.hid (bel_trans B3.out hb); clear hb))
    | (go_at_call 26; ((with_reducible refine (answer_no x n mc _ hans).mono ?_); rintro q W5 ⟨rfl, hb⟩; have B5 := Lib.hid (bel_trans B4.out hb); clear hb))
    | (go_at_call 27; ((with_reducible refine (finish_no key r u v s p m cp _ hbad).mono ?_); rintro q W6 ⟨rfl, hb⟩; have B6 := Lib.hid (bel_trans B5.out hb); clear hb)))
  have hb := bel_alloc1 W6 (.cells #[.int .i64 0, .int .i64 0] 24)
  have B7 := Lib.hid (bel_trans B6.out hb)
  have R7 := Lib.hid (Blk.new W6 #[.int .i64 0, .int .i64 0] 24)
  clear hb
  generalize World.alloc W6 _ = W7 at B7 R7 ⊢
  generalize W6.heap.size = nR at R7 ⊢
  have cR0 := R7.out.cell 0
  have cR1 := R7.out.cell 1
  go_upto_region 11 with (first
    | (go_at_call 21; ((with_reducible refine (rmod2_is u mu _ HMU).mono ?_); rintro q w' ⟨rfl, rfl⟩))
    | (go_at_call 21; ((with_reducible refine (rmod2_is v mv _ HMV).mono ?_); rintro q w' ⟨rfl, rfl⟩))
    | (go_at_call 21; ((with_reducible refine (rmod2_is c mc _ HMC).mono ?_); rintro q w' ⟨rfl, rfl⟩))
    | (go_at_call 21; ((with_reducible refine (rmod2_is s ms _ HMS).mono ?_); rintro q w' ⟨rfl, rfl⟩))
    | (go_at_call 27; ((with_reducible refine (finish_no key r mu (mv - 1073741789) (ms + 1073741789) p m cp _ hbad).mono ?_); rintro q W8 ⟨rfl, hb⟩; have B8 := Lib.hid (bel_trans B7.out hb); have R8 := Lib.hid (R7.out.below hb R7.out.lt); have cR0 := R8.out.cell 0; have cR1 := R8.out.cell 1; clear hb)))
  have hb := bel_alloc1 W8 (.cells #[.int .i64 0, .int .i64 0] 24)
  have B9 := Lib.hid (bel_trans B8.out hb)
  have Y9 := Lib.hid (Blk.new W8 #[.int .i64 0, .int .i64 0] 24)
  have R9 := Lib.hid (R8.out.below hb R8.out.lt)
  clear hb
  generalize World.alloc W8 _ = W9 at B9 Y9 R9 ⊢
  generalize W8.heap.size = nY at Y9 ⊢
  have cR0 := R9.out.cell 0
  have cR1 := R9.out.cell 1
  have cY0 := Y9.out.cell 0
  have cY1 := Y9.out.cell 1
  go_wp2_with fail
  go_ret
  exact ⟨rfl, B9.out⟩
set_option maxRecDepth 100000 in
set_option maxHeartbeats 4000000 in
theorem blindMod_byes (key r : Int) (p : Option Addr) (m cp : Nat) (bs : List Int) (u v c s x n : Int) (w : World) (hz : Hid (SrcW w p m cp bs)) (hk : Hid (KeysAt w)) (hm : m ≤ 600) (mu mv mc ms : Int) (HMU : Hid (modQ u = mu)) (HMV : Hid (modQ v = mv)) (HMC : Hid (modQ c = mc)) (HMS : Hid (modQ s = ms)) (hbad : Hid ((elB key && elB r) = false)) (hx1 : Hid (secB x = true)) (hn1 : Hid (secB n = true)) (y a : Int) (HY : Hid (modQ (c * x) = y)) (HY2 : Hid (modQ (mc * x) = y)) (HA : Hid (modQ (n + y) = a)) : Calls Tryd.prog 10 #[.int .i64 key, .int .i64 r, .slice p m cp, .int .i64 u, .int .i64 v, .int .i64 c, .int .i64 s, .int .i64 x, .int .i64 n] w fun q w' => q = .returned (.bool true) ∧ Below w.heap.size w w' := by
  have B0 := Lib.hid (Below.refl w.heap.size w)
  have heq := fun w => eqSig 0 0 0 0 w
  simp only [BEq.rfl, Bool.and_self] at heq
  have mu0 := modQ_rng u
  rw [HMU.out] at mu0
  obtain ⟨mu0, mu1⟩ := mu0
  have mv0 := modQ_rng v
  rw [HMV.out] at mv0
  obtain ⟨mv0, mv1⟩ := mv0
  have mc0 := modQ_rng c
  rw [HMC.out] at mc0
  obtain ⟨mc0, mc1⟩ := mc0
  have ms0 := modQ_rng s
  rw [HMS.out] at ms0
  obtain ⟨ms0, ms1⟩ := ms0
  go_enter Tryd.func10, Tryd.ntmps10
  go_upto_region 10 with (first
    | (go_at_call 23; ((with_reducible refine (sane15_any _ (Lib.hid (hk.out.below B0.out))).mono ?_); rintro q W1 ⟨rfl, hb⟩; have B1 := Lib.hid (bel_trans B0.out hb); clear hb))
    | (go_at_call 25; ((with_reducible refine (ask_no key r u v p m cp _ hbad).mono ?_); rintro q W2 ⟨rfl, hb⟩; have B2 := Lib.hid (bel_trans B1.out hb); clear hb))
    | (go_at_call 21; ((with_reducible refine (rmod2_is u mu _ HMU).mono ?_); rintro q w' ⟨rfl, rfl⟩))
    | (go_at_call 21; ((with_reducible refine (rmod2_is v mv _ HMV).mono ?_); rintro q w' ⟨rfl, rfl⟩))
    | (go_at_call 21; ((with_reducible refine (rmod2_is c mc _ HMC).mono ?_); rintro q w' ⟨rfl, rfl⟩))
    | (go_at_call 21; ((with_reducible refine (rmod2_is s ms _ HMS).mono ?_); rintro q w' ⟨rfl, rfl⟩))
    | (go_at_call 25; ((with_reducible refine (ask_no key r mu (mv - 1073741789) p m cp _ hbad).mono ?_); rintro q W3 ⟨rfl, hb⟩; have B3 := Lib.hid (bel_trans B2.out hb); clear hb))
    | (go_at_call 26; ((with_reducible refine (answer_yes x n c y a _ hx1 hn1 HY HA).mono ?_); rintro q W4 ⟨rfl, hb⟩; have B4 := Lib.hid (bel_trans B3.out hb); clear hb))
    | (go_at_call 26; ((with_reducible refine (answer_yes x n mc y a _ hx1 hn1 HY2 HA).mono ?_); rintro q W5 ⟨rfl, hb⟩; have B5 := Lib.hid (bel_trans B4.out hb); clear hb))
    | (go_at_call 27; ((with_reducible refine (finish_no key r u v s p m cp _ hbad).mono ?_); rintro q W6 ⟨rfl, hb⟩; have B6 := Lib.hid (bel_trans B5.out hb); clear hb)))
  have hb := bel_alloc1 W6 (.cells #[.int .i64 0, .int .i64 0] 24)
  have B7 := Lib.hid (bel_trans B6.out hb)
  have R7 := Lib.hid (Blk.new W6 #[.int .i64 0, .int .i64 0] 24)
  clear hb
  generalize World.alloc W6 _ = W7 at B7 R7 ⊢
  generalize W6.heap.size = nR at R7 ⊢
  have cR0 := R7.out.cell 0
  have cR1 := R7.out.cell 1
  go_upto_region 11 with (first
    | (go_at_call 21; ((with_reducible refine (rmod2_is u mu _ HMU).mono ?_); rintro q w' ⟨rfl, rfl⟩))
    | (go_at_call 21; ((with_reducible refine (rmod2_is v mv _ HMV).mono ?_); rintro q w' ⟨rfl, rfl⟩))
    | (go_at_call 21; ((with_reducible refine (rmod2_is c mc _ HMC).mono ?_); rintro q w' ⟨rfl, rfl⟩))
    | (go_at_call 21; ((with_reducible refine (rmod2_is s ms _ HMS).mono ?_); rintro q w' ⟨rfl, rfl⟩))
    | (go_at_call 27; ((with_reducible refine (finish_no key r mu (mv - 1073741789) (ms + 1073741789) p m cp _ hbad).mono ?_); rintro q W8 ⟨rfl, hb⟩; have B8 := Lib.hid (bel_trans B7.out hb); have R8 := Lib.hid (R7.out.below hb R7.out.lt); have cR0 := R8.out.cell 0; have cR1 := R8.out.cell 1; clear hb)))
  have hb := bel_alloc1 W8 (.cells #[.int .i64 0, .int .i64 0] 24)
  have B9 := Lib.hid (bel_trans B8.out hb)
  have Y9 := Lib.hid (Blk.new W8 #[.int .i64 0, .int .i64 0] 24)
  have R9 := Lib.hid (R8.out.below hb R8.out.lt)
  clear hb
  generalize World.alloc W8 _ = W9 at B9 Y9 R9 ⊢
  generalize W8.heap.size = nY at Y9 ⊢
  have cR0 := R9.out.cell 0
  have cR1 := R9.out.cell 1
  have cY0 := Y9.out.cell 0
  have cY1 := Y9.out.cell 1
  go_wp2_with fail
  go_ret
  exact ⟨rfl, B9.out⟩
set_option maxRecDepth 100000 in
set_option maxHeartbeats 4000000 in
theorem blindMod_dno (key r : Int) (p : Option Addr) (m cp : Nat) (bs : List Int) (u v c s x n : Int) (w : World) (hz : Hid (SrcW w p m cp bs)) (hk : Hid (KeysAt w)) (hm : m ≤ 600) (mu mv mc ms : Int) (HMU : Hid (modQ u = mu)) (HMV : Hid (modQ v = mv)) (HMC : Hid (modQ c = mc)) (HMS : Hid (modQ s = ms)) (hk1 : Hid (elB key = true)) (hr1 : Hid (elB r = true)) (HT : Hid (txOk bs)) (pt h d S : Int) (HBP : Hid (IsBp key r u v pt)) (HBP2 : Hid (IsBp key r mu (mv - 1073741789) pt)) (HCH : Hid (IsCh pt key bs h)) (HC : Hid (modQ (h + v) = d)) (HC2 : Hid (modQ (h + (mv - 1073741789)) = d)) (HS : Hid (modQ (s + u) = S)) (HS2 : Hid (modQ (ms + 1073741789 + mu) = S)) (HV : Hid (IsVer key bs h S false)) (hans : Hid ((secB x && secB n) = false)) : Calls Tryd.prog 10 #[.int .i64 key, .int .i64 r, .slice p m cp, .int .i64 u, .int .i64 v, .int .i64 c, .int .i64 s, .int .i64 x, .int .i64 n] w fun q w' => q = .returned (.bool true) ∧ Below w.heap.size w w' := by
  have B0 := Lib.hid (Below.refl w.heap.size w)
  have heq := fun w => eqSig 0 0 0 0 w
  simp only [BEq.rfl, Bool.and_self] at heq
  have mu0 := modQ_rng u
  rw [HMU.out] at mu0
  obtain ⟨mu0, mu1⟩ := mu0
  have mv0 := modQ_rng v
  rw [HMV.out] at mv0
  obtain ⟨mv0, mv1⟩ := mv0
  have mc0 := modQ_rng c
  rw [HMC.out] at mc0
  obtain ⟨mc0, mc1⟩ := mc0
  have ms0 := modQ_rng s
  rw [HMS.out] at ms0
  obtain ⟨ms0, ms1⟩ := ms0
  go_enter Tryd.func10, Tryd.ntmps10
  go_upto_region 10 with (first
    | (go_at_call 23; ((with_reducible refine (sane15_any _ (Lib.hid (hk.out.below B0.out))).mono ?_); rintro q W1 ⟨rfl, hb⟩; have B1 := Lib.hid (bel_trans B0.out hb); clear hb))
    | (go_at_call 25; ((with_reducible refine (ask_yes key r u v pt h d p m cp bs _ hk1 hr1 HT (Lib.hid (hz.out.below B1.out)) (Lib.hid (hk.out.below B1.out)) HBP HCH HC).mono ?_); rintro q W2 ⟨rfl, hb⟩; have B2 := Lib.hid (bel_trans B1.out hb); clear hb))
    | (go_at_call 21; ((with_reducible refine (rmod2_is u mu _ HMU).mono ?_); rintro q w' ⟨rfl, rfl⟩))
    | (go_at_call 21; ((with_reducible refine (rmod2_is v mv _ HMV).mono ?_); rintro q w' ⟨rfl, rfl⟩))
    | (go_at_call 21; ((with_reducible refine (rmod2_is c mc _ HMC).mono ?_); rintro q w' ⟨rfl, rfl⟩))
    | (go_at_call 21; ((with_reducible refine (rmod2_is s ms _ HMS).mono ?_); rintro q w' ⟨rfl, rfl⟩))
    | (go_at_call 25; ((with_reducible refine (ask_yes key r mu (mv - 1073741789) pt h d p m cp bs _ hk1 hr1 HT (Lib.hid (hz.out.below B2.out)) (Lib.hid (hk.out.below B2.out)) HBP2 HCH HC2).mono ?_); rintro q W3 ⟨rfl, hb⟩; have B3 := Lib.hid (bel_trans B2.out hb); clear hb))
    | (go_at_call 26; ((with_reducible refine (answer_no x n c _ hans).mono ?_); rintro q W4 ⟨rfl, hb⟩; have B4 := Lib.hid (bel_trans B3.out hb); clear hb))
    | (go_at_call 26; ((with_reducible refine (answer_no x n mc _ hans).mono ?_); rintro q W5 ⟨rfl, hb⟩; have B5 := Lib.hid (bel_trans B4.out hb); clear hb))
    | (go_at_call 27; ((with_reducible refine (finish_bad key r u v s pt h S p m cp bs _ hk1 hr1 HT (Lib.hid (hz.out.below B5.out)) (Lib.hid (hk.out.below B5.out)) HBP HCH HS HV).mono ?_); rintro q W6 ⟨rfl, hb⟩; have B6 := Lib.hid (bel_trans B5.out hb); clear hb)))
  have hb := bel_alloc1 W6 (.cells #[.int .i64 0, .int .i64 0] 24)
  have B7 := Lib.hid (bel_trans B6.out hb)
  have R7 := Lib.hid (Blk.new W6 #[.int .i64 0, .int .i64 0] 24)
  clear hb
  generalize World.alloc W6 _ = W7 at B7 R7 ⊢
  generalize W6.heap.size = nR at R7 ⊢
  have cR0 := R7.out.cell 0
  have cR1 := R7.out.cell 1
  go_upto_region 11 with (first
    | (go_at_call 21; ((with_reducible refine (rmod2_is u mu _ HMU).mono ?_); rintro q w' ⟨rfl, rfl⟩))
    | (go_at_call 21; ((with_reducible refine (rmod2_is v mv _ HMV).mono ?_); rintro q w' ⟨rfl, rfl⟩))
    | (go_at_call 21; ((with_reducible refine (rmod2_is c mc _ HMC).mono ?_); rintro q w' ⟨rfl, rfl⟩))
    | (go_at_call 21; ((with_reducible refine (rmod2_is s ms _ HMS).mono ?_); rintro q w' ⟨rfl, rfl⟩))
    | (go_at_call 27; ((with_reducible refine (finish_bad key r mu (mv - 1073741789) (ms + 1073741789) pt h S p m cp bs _ hk1 hr1 HT (Lib.hid (hz.out.below B7.out)) (Lib.hid (hk.out.below B7.out)) HBP2 HCH HS2 HV).mono ?_); rintro q W8 ⟨rfl, hb⟩; have B8 := Lib.hid (bel_trans B7.out hb); have R8 := Lib.hid (R7.out.below hb R7.out.lt); have cR0 := R8.out.cell 0; have cR1 := R8.out.cell 1; clear hb)))
  have hb := bel_alloc1 W8 (.cells #[.int .i64 0, .int .i64 0] 24)
  have B9 := Lib.hid (bel_trans B8.out hb)
  have Y9 := Lib.hid (Blk.new W8 #[.int .i64 0, .int .i64 0] 24)
  have R9 := Lib.hid (R8.out.below hb R8.out.lt)
  clear hb
  generalize World.alloc W8 _ = W9 at B9 Y9 R9 ⊢
  generalize W8.heap.size = nY at Y9 ⊢
  have cR0 := R9.out.cell 0
  have cR1 := R9.out.cell 1
  have cY0 := Y9.out.cell 0
  have cY1 := Y9.out.cell 1
  go_wp2_with fail
  go_ret
  exact ⟨rfl, B9.out⟩
set_option maxRecDepth 100000 in
set_option maxHeartbeats 4000000 in
theorem blindMod_dyes (key r : Int) (p : Option Addr) (m cp : Nat) (bs : List Int) (u v c s x n : Int) (w : World) (hz : Hid (SrcW w p m cp bs)) (hk : Hid (KeysAt w)) (hm : m ≤ 600) (mu mv mc ms : Int) (HMU : Hid (modQ u = mu)) (HMV : Hid (modQ v = mv)) (HMC : Hid (modQ c = mc)) (HMS : Hid (modQ s = ms)) (hk1 : Hid (elB key = true)) (hr1 : Hid (elB r = true)) (HT : Hid (txOk bs)) (pt h d S : Int) (HBP : Hid (IsBp key r u v pt)) (HBP2 : Hid (IsBp key r mu (mv - 1073741789) pt)) (HCH : Hid (IsCh pt key bs h)) (HC : Hid (modQ (h + v) = d)) (HC2 : Hid (modQ (h + (mv - 1073741789)) = d)) (HS : Hid (modQ (s + u) = S)) (HS2 : Hid (modQ (ms + 1073741789 + mu) = S)) (HV : Hid (IsVer key bs h S false)) (hx1 : Hid (secB x = true)) (hn1 : Hid (secB n = true)) (y a : Int) (HY : Hid (modQ (c * x) = y)) (HY2 : Hid (modQ (mc * x) = y)) (HA : Hid (modQ (n + y) = a)) : Calls Tryd.prog 10 #[.int .i64 key, .int .i64 r, .slice p m cp, .int .i64 u, .int .i64 v, .int .i64 c, .int .i64 s, .int .i64 x, .int .i64 n] w fun q w' => q = .returned (.bool true) ∧ Below w.heap.size w w' := by
  have B0 := Lib.hid (Below.refl w.heap.size w)
  have heq := fun w => eqSig 0 0 0 0 w
  simp only [BEq.rfl, Bool.and_self] at heq
  have mu0 := modQ_rng u
  rw [HMU.out] at mu0
  obtain ⟨mu0, mu1⟩ := mu0
  have mv0 := modQ_rng v
  rw [HMV.out] at mv0
  obtain ⟨mv0, mv1⟩ := mv0
  have mc0 := modQ_rng c
  rw [HMC.out] at mc0
  obtain ⟨mc0, mc1⟩ := mc0
  have ms0 := modQ_rng s
  rw [HMS.out] at ms0
  obtain ⟨ms0, ms1⟩ := ms0
  go_enter Tryd.func10, Tryd.ntmps10
  go_upto_region 10 with (first
    | (go_at_call 23; ((with_reducible refine (sane15_any _ (Lib.hid (hk.out.below B0.out))).mono ?_); rintro q W1 ⟨rfl, hb⟩; have B1 := Lib.hid (bel_trans B0.out hb); clear hb))
    | (go_at_call 25; ((with_reducible refine (ask_yes key r u v pt h d p m cp bs _ hk1 hr1 HT (Lib.hid (hz.out.below B1.out)) (Lib.hid (hk.out.below B1.out)) HBP HCH HC).mono ?_); rintro q W2 ⟨rfl, hb⟩; have B2 := Lib.hid (bel_trans B1.out hb); clear hb))
    | (go_at_call 21; ((with_reducible refine (rmod2_is u mu _ HMU).mono ?_); rintro q w' ⟨rfl, rfl⟩))
    | (go_at_call 21; ((with_reducible refine (rmod2_is v mv _ HMV).mono ?_); rintro q w' ⟨rfl, rfl⟩))
    | (go_at_call 21; ((with_reducible refine (rmod2_is c mc _ HMC).mono ?_); rintro q w' ⟨rfl, rfl⟩))
    | (go_at_call 21; ((with_reducible refine (rmod2_is s ms _ HMS).mono ?_); rintro q w' ⟨rfl, rfl⟩))
    | (go_at_call 25; ((with_reducible refine (ask_yes key r mu (mv - 1073741789) pt h d p m cp bs _ hk1 hr1 HT (Lib.hid (hz.out.below B2.out)) (Lib.hid (hk.out.below B2.out)) HBP2 HCH HC2).mono ?_); rintro q W3 ⟨rfl, hb⟩; have B3 := Lib.hid (bel_trans B2.out hb); clear hb))
    | (go_at_call 26; ((with_reducible refine (answer_yes x n c y a _ hx1 hn1 HY HA).mono ?_); rintro q W4 ⟨rfl, hb⟩; have B4 := Lib.hid (bel_trans B3.out hb); clear hb))
    | (go_at_call 26; ((with_reducible refine (answer_yes x n mc y a _ hx1 hn1 HY2 HA).mono ?_); rintro q W5 ⟨rfl, hb⟩; have B5 := Lib.hid (bel_trans B4.out hb); clear hb))
    | (go_at_call 27; ((with_reducible refine (finish_bad key r u v s pt h S p m cp bs _ hk1 hr1 HT (Lib.hid (hz.out.below B5.out)) (Lib.hid (hk.out.below B5.out)) HBP HCH HS HV).mono ?_); rintro q W6 ⟨rfl, hb⟩; have B6 := Lib.hid (bel_trans B5.out hb); clear hb)))
  have hb := bel_alloc1 W6 (.cells #[.int .i64 0, .int .i64 0] 24)
  have B7 := Lib.hid (bel_trans B6.out hb)
  have R7 := Lib.hid (Blk.new W6 #[.int .i64 0, .int .i64 0] 24)
  clear hb
  generalize World.alloc W6 _ = W7 at B7 R7 ⊢
  generalize W6.heap.size = nR at R7 ⊢
  have cR0 := R7.out.cell 0
  have cR1 := R7.out.cell 1
  go_upto_region 11 with (first
    | (go_at_call 21; ((with_reducible refine (rmod2_is u mu _ HMU).mono ?_); rintro q w' ⟨rfl, rfl⟩))
    | (go_at_call 21; ((with_reducible refine (rmod2_is v mv _ HMV).mono ?_); rintro q w' ⟨rfl, rfl⟩))
    | (go_at_call 21; ((with_reducible refine (rmod2_is c mc _ HMC).mono ?_); rintro q w' ⟨rfl, rfl⟩))
    | (go_at_call 21; ((with_reducible refine (rmod2_is s ms _ HMS).mono ?_); rintro q w' ⟨rfl, rfl⟩))
    | (go_at_call 27; ((with_reducible refine (finish_bad key r mu (mv - 1073741789) (ms + 1073741789) pt h S p m cp bs _ hk1 hr1 HT (Lib.hid (hz.out.below B7.out)) (Lib.hid (hk.out.below B7.out)) HBP2 HCH HS2 HV).mono ?_); rintro q W8 ⟨rfl, hb⟩; have B8 := Lib.hid (bel_trans B7.out hb); have R8 := Lib.hid (R7.out.below hb R7.out.lt); have cR0 := R8.out.cell 0; have cR1 := R8.out.cell 1; clear hb)))
  have hb := bel_alloc1 W8 (.cells #[.int .i64 0, .int .i64 0] 24)
  have B9 := Lib.hid (bel_trans B8.out hb)
  have Y9 := Lib.hid (Blk.new W8 #[.int .i64 0, .int .i64 0] 24)
  have R9 := Lib.hid (R8.out.below hb R8.out.lt)
  clear hb
  generalize World.alloc W8 _ = W9 at B9 Y9 R9 ⊢
  generalize W8.heap.size = nY at Y9 ⊢
  have cR0 := R9.out.cell 0
  have cR1 := R9.out.cell 1
  have cY0 := Y9.out.cell 0
  have cY1 := Y9.out.cell 1
  go_wp2_with fail
  go_ret
  exact ⟨rfl, B9.out⟩
set_option maxRecDepth 100000 in
set_option maxHeartbeats 4000000 in
theorem blindMod_fno (key r : Int) (p : Option Addr) (m cp : Nat) (bs : List Int) (u v c s x n : Int) (w : World) (hz : Hid (SrcW w p m cp bs)) (hk : Hid (KeysAt w)) (hm : m ≤ 600) (mu mv mc ms : Int) (HMU : Hid (modQ u = mu)) (HMV : Hid (modQ v = mv)) (HMC : Hid (modQ c = mc)) (HMS : Hid (modQ s = ms)) (hk1 : Hid (elB key = true)) (hr1 : Hid (elB r = true)) (HT : Hid (txOk bs)) (pt h d S : Int) (HBP : Hid (IsBp key r u v pt)) (HBP2 : Hid (IsBp key r mu (mv - 1073741789) pt)) (HCH : Hid (IsCh pt key bs h)) (HC : Hid (modQ (h + v) = d)) (HC2 : Hid (modQ (h + (mv - 1073741789)) = d)) (HS : Hid (modQ (s + u) = S)) (HS2 : Hid (modQ (ms + 1073741789 + mu) = S)) (HV : Hid (IsVer key bs h S true)) (hans : Hid ((secB x && secB n) = false)) : Calls Tryd.prog 10 #[.int .i64 key, .int .i64 r, .slice p m cp, .int .i64 u, .int .i64 v, .int .i64 c, .int .i64 s, .int .i64 x, .int .i64 n] w fun q w' => q = .returned (.bool true) ∧ Below w.heap.size w w' := by
  have B0 := Lib.hid (Below.refl w.heap.size w)
  have heq := fun w => eqSig h S h S w
  simp only [BEq.rfl, Bool.and_self] at heq
  have mu0 := modQ_rng u
  rw [HMU.out] at mu0
  obtain ⟨mu0, mu1⟩ := mu0
  have mv0 := modQ_rng v
  rw [HMV.out] at mv0
  obtain ⟨mv0, mv1⟩ := mv0
  have mc0 := modQ_rng c
  rw [HMC.out] at mc0
  obtain ⟨mc0, mc1⟩ := mc0
  have ms0 := modQ_rng s
  rw [HMS.out] at ms0
  obtain ⟨ms0, ms1⟩ := ms0
  go_enter Tryd.func10, Tryd.ntmps10
  go_upto_region 10 with (first
    | (go_at_call 23; ((with_reducible refine (sane15_any _ (Lib.hid (hk.out.below B0.out))).mono ?_); rintro q W1 ⟨rfl, hb⟩; have B1 := Lib.hid (bel_trans B0.out hb); clear hb))
    | (go_at_call 25; ((with_reducible refine (ask_yes key r u v pt h d p m cp bs _ hk1 hr1 HT (Lib.hid (hz.out.below B1.out)) (Lib.hid (hk.out.below B1.out)) HBP HCH HC).mono ?_); rintro q W2 ⟨rfl, hb⟩; have B2 := Lib.hid (bel_trans B1.out hb); clear hb))
    | (go_at_call 21; ((with_reducible refine (rmod2_is u mu _ HMU).mono ?_); rintro q w' ⟨rfl, rfl⟩))
    | (go_at_call 21; ((with_reducible refine (rmod2_is v mv _ HMV).mono ?_); rintro q w' ⟨rfl, rfl⟩))
    | (go_at_call 21; ((with_reducible refine (rmod2_is c mc _ HMC).mono ?_); rintro q w' ⟨rfl, rfl⟩))
    | (go_at_call 21; ((with_reducible refine (rmod2_is s ms _ HMS).mono ?_); rintro q w' ⟨rfl, rfl⟩))
    | (go_at_call 25; ((with_reducible refine (ask_yes key r mu (mv - 1073741789) pt h d p m cp bs _ hk1 hr1 HT (Lib.hid (hz.out.below B2.out)) (Lib.hid (hk.out.below B2.out)) HBP2 HCH HC2).mono ?_); rintro q W3 ⟨rfl, hb⟩; have B3 := Lib.hid (bel_trans B2.out hb); clear hb))
    | (go_at_call 26; ((with_reducible refine (answer_no x n c _ hans).mono ?_); rintro q W4 ⟨rfl, hb⟩; have B4 := Lib.hid (bel_trans B3.out hb); clear hb))
    | (go_at_call 26; ((with_reducible refine (answer_no x n mc _ hans).mono ?_); rintro q W5 ⟨rfl, hb⟩; have B5 := Lib.hid (bel_trans B4.out hb); clear hb))
    | (go_at_call 27; ((with_reducible refine (finish_yes key r u v s pt h S p m cp bs _ hk1 hr1 HT (Lib.hid (hz.out.below B5.out)) (Lib.hid (hk.out.below B5.out)) HBP HCH HS HV).mono ?_); rintro q W6 ⟨rfl, hb⟩; have B6 := Lib.hid (bel_trans B5.out hb); clear hb)))
  have hb := bel_alloc1 W6 (.cells #[.int .i64 h, .int .i64 S] 24)
  have B7 := Lib.hid (bel_trans B6.out hb)
  have R7 := Lib.hid (Blk.new W6 #[.int .i64 h, .int .i64 S] 24)
  clear hb
  generalize World.alloc W6 _ = W7 at B7 R7 ⊢
  generalize W6.heap.size = nR at R7 ⊢
  have cR0 := R7.out.cell 0
  have cR1 := R7.out.cell 1
  go_upto_region 11 with (first
    | (go_at_call 21; ((with_reducible refine (rmod2_is u mu _ HMU).mono ?_); rintro q w' ⟨rfl, rfl⟩))
    | (go_at_call 21; ((with_reducible refine (rmod2_is v mv _ HMV).mono ?_); rintro q w' ⟨rfl, rfl⟩))
    | (go_at_call 21; ((with_reducible refine (rmod2_is c mc _ HMC).mono ?_); rintro q w' ⟨rfl, rfl⟩))
    | (go_at_call 21; ((with_reducible refine (rmod2_is s ms _ HMS).mono ?_); rintro q w' ⟨rfl, rfl⟩))
    | (go_at_call 27; ((with_reducible refine (finish_yes key r mu (mv - 1073741789) (ms + 1073741789) pt h S p m cp bs _ hk1 hr1 HT (Lib.hid (hz.out.below B7.out)) (Lib.hid (hk.out.below B7.out)) HBP2 HCH HS2 HV).mono ?_); rintro q W8 ⟨rfl, hb⟩; have B8 := Lib.hid (bel_trans B7.out hb); have R8 := Lib.hid (R7.out.below hb R7.out.lt); have cR0 := R8.out.cell 0; have cR1 := R8.out.cell 1; clear hb)))
  have hb := bel_alloc1 W8 (.cells #[.int .i64 h, .int .i64 S] 24)
  have B9 := Lib.hid (bel_trans B8.out hb)
  have Y9 := Lib.hid (Blk.new W8 #[.int .i64 h, .int .i64 S] 24)
  have R9 := Lib.hid (R8.out.below hb R8.out.lt)
  clear hb
  generalize World.alloc W8 _ = W9 at B9 Y9 R9 ⊢
  generalize W8.heap.size = nY at Y9 ⊢
  have cR0 := R9.out.cell 0
  have cR1 := R9.out.cell 1
  have cY0 := Y9.out.cell 0
  have cY1 := Y9.out.cell 1
  go_wp2_with fail
  go_ret
  exact ⟨rfl, B9.out⟩
set_option maxRecDepth 100000 in
set_option maxHeartbeats 4000000 in
theorem blindMod_fyes (key r : Int) (p : Option Addr) (m cp : Nat) (bs : List Int) (u v c s x n : Int) (w : World) (hz : Hid (SrcW w p m cp bs)) (hk : Hid (KeysAt w)) (hm : m ≤ 600) (mu mv mc ms : Int) (HMU : Hid (modQ u = mu)) (HMV : Hid (modQ v = mv)) (HMC : Hid (modQ c = mc)) (HMS : Hid (modQ s = ms)) (hk1 : Hid (elB key = true)) (hr1 : Hid (elB r = true)) (HT : Hid (txOk bs)) (pt h d S : Int) (HBP : Hid (IsBp key r u v pt)) (HBP2 : Hid (IsBp key r mu (mv - 1073741789) pt)) (HCH : Hid (IsCh pt key bs h)) (HC : Hid (modQ (h + v) = d)) (HC2 : Hid (modQ (h + (mv - 1073741789)) = d)) (HS : Hid (modQ (s + u) = S)) (HS2 : Hid (modQ (ms + 1073741789 + mu) = S)) (HV : Hid (IsVer key bs h S true)) (hx1 : Hid (secB x = true)) (hn1 : Hid (secB n = true)) (y a : Int) (HY : Hid (modQ (c * x) = y)) (HY2 : Hid (modQ (mc * x) = y)) (HA : Hid (modQ (n + y) = a)) : Calls Tryd.prog 10 #[.int .i64 key, .int .i64 r, .slice p m cp, .int .i64 u, .int .i64 v, .int .i64 c, .int .i64 s, .int .i64 x, .int .i64 n] w fun q w' => q = .returned (.bool true) ∧ Below w.heap.size w w' := by
  have B0 := Lib.hid (Below.refl w.heap.size w)
  have heq := fun w => eqSig h S h S w
  simp only [BEq.rfl, Bool.and_self] at heq
  have mu0 := modQ_rng u
  rw [HMU.out] at mu0
  obtain ⟨mu0, mu1⟩ := mu0
  have mv0 := modQ_rng v
  rw [HMV.out] at mv0
  obtain ⟨mv0, mv1⟩ := mv0
  have mc0 := modQ_rng c
  rw [HMC.out] at mc0
  obtain ⟨mc0, mc1⟩ := mc0
  have ms0 := modQ_rng s
  rw [HMS.out] at ms0
  obtain ⟨ms0, ms1⟩ := ms0
  go_enter Tryd.func10, Tryd.ntmps10
  go_upto_region 10 with (first
    | (go_at_call 23; ((with_reducible refine (sane15_any _ (Lib.hid (hk.out.below B0.out))).mono ?_); rintro q W1 ⟨rfl, hb⟩; have B1 := Lib.hid (bel_trans B0.out hb); clear hb))
    | (go_at_call 25; ((with_reducible refine (ask_yes key r u v pt h d p m cp bs _ hk1 hr1 HT (Lib.hid (hz.out.below B1.out)) (Lib.hid (hk.out.below B1.out)) HBP HCH HC).mono ?_); rintro q W2 ⟨rfl, hb⟩; have B2 := Lib.hid (bel_trans B1.out hb); clear hb))
    | (go_at_call 21; ((with_reducible refine (rmod2_is u mu _ HMU).mono ?_); rintro q w' ⟨rfl, rfl⟩))
    | (go_at_call 21; ((with_reducible refine (rmod2_is v mv _ HMV).mono ?_); rintro q w' ⟨rfl, rfl⟩))
    | (go_at_call 21; ((with_reducible refine (rmod2_is c mc _ HMC).mono ?_); rintro q w' ⟨rfl, rfl⟩))
    | (go_at_call 21; ((with_reducible refine (rmod2_is s ms _ HMS).mono ?_); rintro q w' ⟨rfl, rfl⟩))
    | (go_at_call 25; ((with_reducible refine (ask_yes key r mu (mv - 1073741789) pt h d p m cp bs _ hk1 hr1 HT (Lib.hid (hz.out.below B2.out)) (Lib.hid (hk.out.below B2.out)) HBP2 HCH HC2).mono ?_); rintro q W3 ⟨rfl, hb⟩; have B3 := Lib.hid (bel_trans B2.out hb); clear hb))
    | (go_at_call 26; ((with_reducible refine (answer_yes x n c y a _ hx1 hn1 HY HA).mono ?_); rintro q W4 ⟨rfl, hb⟩; have B4 := Lib.hid (bel_trans B3.out hb); clear hb))
    | (go_at_call 26; ((with_reducible refine (answer_yes x n mc y a _ hx1 hn1 HY2 HA).mono ?_); rintro q W5 ⟨rfl, hb⟩; have B5 := Lib.hid (bel_trans B4.out hb); clear hb))
    | (go_at_call 27; ((with_reducible refine (finish_yes key r u v s pt h S p m cp bs _ hk1 hr1 HT (Lib.hid (hz.out.below B5.out)) (Lib.hid (hk.out.below B5.out)) HBP HCH HS HV).mono ?_); rintro q W6 ⟨rfl, hb⟩; have B6 := Lib.hid (bel_trans B5.out hb); clear hb)))
  have hb := bel_alloc1 W6 (.cells #[.int .i64 h, .int .i64 S] 24)
  have B7 := Lib.hid (bel_trans B6.out hb)
  have R7 := Lib.hid (Blk.new W6 #[.int .i64 h, .int .i64 S] 24)
  clear hb
  generalize World.alloc W6 _ = W7 at B7 R7 ⊢
  generalize W6.heap.size = nR at R7 ⊢
  have cR0 := R7.out.cell 0
  have cR1 := R7.out.cell 1
  go_upto_region 11 with (first
    | (go_at_call 21; ((with_reducible refine (rmod2_is u mu _ HMU).mono ?_); rintro q w' ⟨rfl, rfl⟩))
    | (go_at_call 21; ((with_reducible refine (rmod2_is v mv _ HMV).mono ?_); rintro q w' ⟨rfl, rfl⟩))
    | (go_at_call 21; ((with_reducible refine (rmod2_is c mc _ HMC).mono ?_); rintro q w' ⟨rfl, rfl⟩))
    | (go_at_call 21; ((with_reducible refine (rmod2_is s ms _ HMS).mono ?_); rintro q w' ⟨rfl, rfl⟩))
    | (go_at_call 27; ((with_reducible refine (finish_yes key r mu (mv - 1073741789) (ms + 1073741789) pt h S p m cp bs _ hk1 hr1 HT (Lib.hid (hz.out.below B7.out)) (Lib.hid (hk.out.below B7.out)) HBP2 HCH HS2 HV).mono ?_); rintro q W8 ⟨rfl, hb⟩; have B8 := Lib.hid (bel_trans B7.out hb); have R8 := Lib.hid (R7.out.below hb R7.out.lt); have cR0 := R8.out.cell 0; have cR1 := R8.out.cell 1; clear hb)))
  have hb := bel_alloc1 W8 (.cells #[.int .i64 h, .int .i64 S] 24)
  have B9 := Lib.hid (bel_trans B8.out hb)
  have Y9 := Lib.hid (Blk.new W8 #[.int .i64 h, .int .i64 S] 24)
  have R9 := Lib.hid (R8.out.below hb R8.out.lt)
  clear hb
  generalize World.alloc W8 _ = W9 at B9 Y9 R9 ⊢
  generalize W8.heap.size = nY at Y9 ⊢
  have cR0 := R9.out.cell 0
  have cR1 := R9.out.cell 1
  have cY0 := Y9.out.cell 0
  have cY1 := Y9.out.cell 1
  go_wp2_with fail
  go_ret
  exact ⟨rfl, B9.out⟩
theorem blindModulo_walk (key r : Int) (p : Option Addr) (m cp : Nat) (bs : List Int) (u v c s x n : Int) (w : World) (hz : Hid (SrcW w p m cp bs)) (hk : Hid (KeysAt w)) (hrr : ∀ z ∈ bs, 0 ≤ z ∧ z ≤ 255) : Calls Tryd.prog 10 #[.int .i64 key, .int .i64 r, .slice p m cp, .int .i64 u, .int .i64 v, .int .i64 c, .int .i64 s, .int .i64 x, .int .i64 n] w fun q w' => q = .returned (.bool true) ∧ Below w.heap.size w w' := by
  by_cases hm : m ≤ 600
  case neg => exact blindMod_a key r p m cp bs u v c s x n w hz hk hm
  have HT := Lib.hid (tx_of hz.out hrr hm)
  cases h12 : (elB key && elB r) with
  | false =>
    cases hb : (secB x && secB n) with
    | false => exact blindMod_bno key r p m cp bs u v c s x n w hz hk hm _ _ _ _ (Lib.hid rfl) (Lib.hid rfl) (Lib.hid rfl) (Lib.hid rfl) (Lib.hid h12) (Lib.hid hb)
    | true => exact blindMod_byes key r p m cp bs u v c s x n w hz hk hm _ _ _ _ (Lib.hid rfl) (Lib.hid rfl) (Lib.hid rfl) (Lib.hid rfl) (Lib.hid h12) (Lib.hid (Bool.and_eq_true_iff.1 hb).1) (Lib.hid (Bool.and_eq_true_iff.1 hb).2) _ _ (Lib.hid rfl) (Lib.hid (by rw [← modQ_mul, show modQ (modQ c) = modQ c by unfold modQ; omega, modQ_mul])) (Lib.hid rfl)
  | true =>
    have h1 := (Bool.and_eq_true_iff.1 h12).1
    have h2 := (Bool.and_eq_true_iff.1 h12).2
    obtain ⟨pt, hp⟩ := isBp key r u v
    obtain ⟨h, hh⟩ := isCh pt key bs
    obtain ⟨q, hv⟩ := isVer key bs h (modQ (s + u))
    cases q with
    | false =>
      cases hb : (secB x && secB n) with
      | false => exact blindMod_dno key r p m cp bs u v c s x n w hz hk hm _ _ _ _ (Lib.hid rfl) (Lib.hid rfl) (Lib.hid rfl) (Lib.hid rfl) (Lib.hid h1) (Lib.hid h2) HT pt h _ _ (Lib.hid hp) (Lib.hid ⟨(bpZ_congr key r (by unfold modQ; omega) (by unfold modQ; omega)).trans hp.eq⟩) (Lib.hid hh) (Lib.hid rfl) (Lib.hid (by unfold modQ; omega)) (Lib.hid rfl) (Lib.hid (by unfold modQ; omega)) (Lib.hid hv) (Lib.hid hb)
      | true => exact blindMod_dyes key r p m cp bs u v c s x n w hz hk hm _ _ _ _ (Lib.hid rfl) (Lib.hid rfl) (Lib.hid rfl) (Lib.hid rfl) (Lib.hid h1) (Lib.hid h2) HT pt h _ _ (Lib.hid hp) (Lib.hid ⟨(bpZ_congr key r (by unfold modQ; omega) (by unfold modQ; omega)).trans hp.eq⟩) (Lib.hid hh) (Lib.hid rfl) (Lib.hid (by unfold modQ; omega)) (Lib.hid rfl) (Lib.hid (by unfold modQ; omega)) (Lib.hid hv) (Lib.hid (Bool.and_eq_true_iff.1 hb).1) (Lib.hid (Bool.and_eq_true_iff.1 hb).2) _ _ (Lib.hid rfl) (Lib.hid (by rw [← modQ_mul, show modQ (modQ c) = modQ c by unfold modQ; omega, modQ_mul])) (Lib.hid rfl)
    | true =>
      cases hb : (secB x && secB n) with
      | false => exact blindMod_fno key r p m cp bs u v c s x n w hz hk hm _ _ _ _ (Lib.hid rfl) (Lib.hid rfl) (Lib.hid rfl) (Lib.hid rfl) (Lib.hid h1) (Lib.hid h2) HT pt h _ _ (Lib.hid hp) (Lib.hid ⟨(bpZ_congr key r (by unfold modQ; omega) (by unfold modQ; omega)).trans hp.eq⟩) (Lib.hid hh) (Lib.hid rfl) (Lib.hid (by unfold modQ; omega)) (Lib.hid rfl) (Lib.hid (by unfold modQ; omega)) (Lib.hid hv) (Lib.hid hb)
      | true => exact blindMod_fyes key r p m cp bs u v c s x n w hz hk hm _ _ _ _ (Lib.hid rfl) (Lib.hid rfl) (Lib.hid rfl) (Lib.hid rfl) (Lib.hid h1) (Lib.hid h2) HT pt h _ _ (Lib.hid hp) (Lib.hid ⟨(bpZ_congr key r (by unfold modQ; omega) (by unfold modQ; omega)).trans hp.eq⟩) (Lib.hid hh) (Lib.hid rfl) (Lib.hid (by unfold modQ; omega)) (Lib.hid rfl) (Lib.hid (by unfold modQ; omega)) (Lib.hid hv) (Lib.hid (Bool.and_eq_true_iff.1 hb).1) (Lib.hid (Bool.and_eq_true_iff.1 hb).2) _ _ (Lib.hid rfl) (Lib.hid (by rw [← modQ_mul, show modQ (modQ c) = modQ c by unfold modQ; omega, modQ_mul])) (Lib.hid rfl)

namespace blindModulo
theorem readable : ∀ t ∈ Tryd.f10.params.toList, Tryd.prog.readableRec t = true ∧ t < Tryd.prog.types.size := by
  rw [Tryd.params10]
  intro t ht
  simp only [List.mem_cons, List.not_mem_nil, or_false] at ht
  rcases ht with rfl | rfl | rfl | rfl | rfl | rfl | rfl | rfl | rfl
  all_goals exact ⟨by kernel_rfl, by decide +kernel⟩

set_option maxRecDepth 100000 in
theorem lifted (os : Os) (started : os.Started) (H : Type) (enc : TypeId × Value → H) :
    ReturnsInHanded {} Tryd.checked os 10 .any (fun w args => (Rows.blindModuloSpec.pre enc Tryd.prog Tryd.f10 [] false w args ∧ laidMetH Tryd.prog laidK w) ∧ sizedMet enc Tryd.prog Tryd.f10 (OpenSpec.ofChange Rows.blindModuloSpec) false w args)
      (Rows.blindModuloSpec.post enc Tryd.prog Tryd.f10 false true false false) := by
  refine returnsInHanded_of_change_and (C := Tryd.checked) (X := fun w _ => laidMetH Tryd.prog laidK w) (fun _ _ _ hh h => h.of_heap hh) own_knob started (by kernel_rfl) Tryd.func10
    (ChangeSpec.witness_shaped (enc := enc) (C := Tryd.checked) (os := os) (X := fun w _ => laidMetH Tryd.prog laidK w) false (World.doorLaid Tryd.prog 400 os) #[.int .i64 0, .int .i64 0, .slice none 0 0, .int .i64 0, .int .i64 0, .int .i64 0, .int .i64 0, .int .i64 0, .int .i64 0] 8 rfl (World.shaped_of_RefB (by kernel_rfl) (by kernel_rfl)) (by kernel_rfl) (by kernel_rfl) (by kernel_rfl) (door_met os _)) ?_
  intro W base args ds gs before hval0 hW _ _ hL _
  have hval : ∀ (j : Nat) t v, Tryd.f10.params[j]? = some t → args[j]? = some v → Value.okWide Tryd.prog W .any base t v := hval0
  have hW' := hW
  obtain ⟨p, q, hA0, hV, rfl, hfz, hnd⟩ := hW
  have hA : DataW.TrodAll enc Tryd.prog W 0 (fun _ => true) true Tryd.f10.params.toList args.toList ds p := hA0
  rw [Tryd.params10] at hA hval
  obtain ⟨v0, vs0, d0, ds0, p0, q0, hargs, rfl, rfl, h0, r0⟩ := trodAll_cons hA
  obtain ⟨v1, vs1, d1, ds1, p1, q1, rfl, rfl, rfl, h1, r1⟩ := trodAll_cons r0
  obtain ⟨v2, vs2, d2, ds2, p2, q2, rfl, rfl, rfl, h2, r2⟩ := trodAll_cons r1
  obtain ⟨v3, vs3, d3, ds3, p3, q3, rfl, rfl, rfl, h3, r3⟩ := trodAll_cons r2
  obtain ⟨v4, vs4, d4, ds4, p4, q4, rfl, rfl, rfl, h4, r4⟩ := trodAll_cons r3
  obtain ⟨v5, vs5, d5, ds5, p5, q5, rfl, rfl, rfl, h5, r5⟩ := trodAll_cons r4
  obtain ⟨v6, vs6, d6, ds6, p6, q6, rfl, rfl, rfl, h6, r6⟩ := trodAll_cons r5
  obtain ⟨v7, vs7, d7, ds7, p7, q7, rfl, rfl, rfl, h7, r7⟩ := trodAll_cons r6
  obtain ⟨v8, vs8, d8, ds8, p8, q8, rfl, rfl, rfl, h8, r8⟩ := trodAll_cons r7
  obtain ⟨rfl, rfl, rfl⟩ := trodAll_nil r8
  obtain rfl : args = #[v0, v1, v2, v3, v4, v5, v6, v7, v8] := by cases args; simp_all
  obtain ⟨rfl, rfl⟩ := trodVars_none hV
  obtain ⟨a0, rfl, rfl, rfl, w0⟩ := open_int Tryd.underlying3 (hval 0 3 v0 rfl rfl) h0
  obtain ⟨a1, rfl, rfl, rfl, w1⟩ := open_int Tryd.underlying3 (hval 1 3 v1 rfl rfl) h1
  obtain ⟨s2, n2, c2, z2, rfl, w2, x2, y2, u2⟩ := open_src Tryd.underlying22 Tryd.underlying5 (by kernel_rfl) (hval 2 22 v2 rfl rfl) h2
  obtain ⟨a3, rfl, rfl, rfl, w3⟩ := open_int Tryd.underlying3 (hval 3 3 v3 rfl rfl) h3
  obtain ⟨a4, rfl, rfl, rfl, w4⟩ := open_int Tryd.underlying3 (hval 4 3 v4 rfl rfl) h4
  obtain ⟨a5, rfl, rfl, rfl, w5⟩ := open_int Tryd.underlying3 (hval 5 3 v5 rfl rfl) h5
  obtain ⟨a6, rfl, rfl, rfl, w6⟩ := open_int Tryd.underlying3 (hval 6 3 v6 rfl rfl) h6
  obtain ⟨a7, rfl, rfl, rfl, w7⟩ := open_int Tryd.underlying3 (hval 7 3 v7 rfl rfl) h7
  obtain ⟨a8, rfl, rfl, rfl, w8⟩ := open_int Tryd.underlying3 (hval 8 3 v8 rfl rfl) h8
  have hK := of_laid hL
  clear hA0 hval0
  refine (blindModulo_walk a0 a1 s2 n2 c2 z2 a3 a4 a5 a6 a7 a8 W (Lib.hid w2) (Lib.hid hK) x2).mono fun e W' ⟨he, hb⟩ => ?_
  subst he
  exact ⟨_, rfl, law_post laid_out readable rfl rfl Tryd.underlying4 hW' rfl rfl rfl hb⟩

theorem over : Rows.blindModuloRow.holds Tryd.pinned (OpenSpec.ofChange Rows.blindModuloSpec) :=
  OpenClaim.holds_of_wide 10 Tryd.f10 rfl rfl rfl rfl rfl rfl rfl ⟨rfl, rfl, rfl, rfl, rfl⟩ rfl rfl rfl rfl rfl (by kernel_rfl) Tryd.func10 (by kernel_rfl)
    (of_decide_eq_true (by kernel_rfl)) (by unfold Func.isWrapper; first | (rw [if_pos (by decide +kernel)]; kernel_rfl) | (rw [if_neg (by decide +kernel)]; exact ⟨rfl, rfl⟩))
    (fun os started H enc _ => lifted os started H enc)

/-- the statement: the tied card -/
theorem proved : Rows.BlindModuloCardSaid :=
  Claim7.holds_tied_plain_at .later [] [.data] true (true, "bc6094e853e3747432043714df9a4ae338abb82d89132539a305f2be281f9fc0") true
    over (fun _ h => by cases h) (by kernel_rfl) (fun _ h => by cases h) blindModulo_row_tie rfl ⟨rfl, rfl⟩ (by kernel_rfl) rfl
    (fun f fn hf hfn => by
      obtain rfl : f = 10 := Option.some.inj ((show Tryd.prog.funcNamed "franking/frankinglaw15.BlindModulo" = some 10 by kernel_rfl).symm.trans hf) |>.symm
      obtain rfl : fn = Tryd.f10 := (Option.some.inj (Tryd.func10.symm.trans hfn)).symm
      exact ⟨by kernel_rfl, fun j t ht => by
        rw [Tryd.params10] at ht
        have hm : t ∈ [3, 3, 22, 3, 3, 3, 3, 3, 3] := by simpa using Array.mem_of_getElem? ht
        have hall : ([3, 3, 22, 3, 3, 3, 3, 3, 3].all fun u => !Tryd.prog.wantsStandIn u) = true := by kernel_rfl
        exact (show Tryd.prog.wantsStandIn t = false by simpa using List.all_eq_true.1 hall t hm)⟩)
    (by kernel_rfl)
end blindModulo
end Go.Proofs.YthhlpkppcbillaaDoor
