/- For all numbers, texts and signatures, valid or not, Finish and Link match the specification. No condition. -/
import Derived.Test.YthhlpkppcbillaaGreatDoorRef15
import Derived.Test.YthhlpkppcbillaaGreatDoorSigCard
namespace Go.Proofs.YthhlpkppcbillaaGreatDoor
open Go.ChangeShapes Go.WideShapes Go.ChangeAt Go.RowKit Go.WideElems Go.Shelf
set_option linter.unusedVariables false
set_option linter.unusedSimpArgs false

theorem txf_of {w : World} {p : Option Addr} {m c : Nat} {bs : List Int} (hz : SrcW w p m c bs) (hr : ∀ z ∈ bs, 0 ≤ z ∧ z ≤ 255) (hm : m ≤ 600) : txOk bs := ⟨by have := hz.len; omega, hr⟩
set_option maxRecDepth 100000 in
set_option maxHeartbeats 4000000 in
theorem blindFS_a (key r : Int) (p : Option Addr) (m cp : Nat) (bs : List Int) (u v c s e S : Int) (w : World) (hz : Hid (SrcW w p m cp bs)) (hk : Hid (KeysAt w)) (hm : ¬ m ≤ 600) : Calls Tryz.prog 4 #[.int .i64 key, .int .i64 r, .slice p m cp, .int .i64 u, .int .i64 v, .int .i64 c, .int .i64 s, .agg #[.int .i64 e, .int .i64 S]] w fun q w' => q = .returned (.bool true) ∧ Below w.heap.size w w' := by
  have B0 := Lib.hid (bel_alloc1 w (.cells #[.int .i64 e, .int .i64 S] 31))
  have X0 := Lib.hid (Blk.new w #[.int .i64 e, .int .i64 S] 31)
  go_enter Tryz.func4, Tryz.ntmps4
  go_wp2_with (first
    | (go_at_call 5; ((with_reducible refine (sane15_any _ (Lib.hid (hk.out.below B0.out))).mono ?_); rintro q W1 ⟨rfl, hb⟩; have B1 := Lib.hid (bel_trans B0.out hb); clear hb)))
  go_ret
  exact ⟨rfl, B1.out⟩
set_option maxRecDepth 100000 in
set_option maxHeartbeats 4000000 in
theorem blindFS_b (key r : Int) (p : Option Addr) (m cp : Nat) (bs : List Int) (u v c s e S : Int) (w : World) (hz : Hid (SrcW w p m cp bs)) (hk : Hid (KeysAt w)) (hm : m ≤ 600) (HT : Hid (txOk bs)) (hbad : Hid ((elB key && elB r) = false)) : Calls Tryz.prog 4 #[.int .i64 key, .int .i64 r, .slice p m cp, .int .i64 u, .int .i64 v, .int .i64 c, .int .i64 s, .agg #[.int .i64 e, .int .i64 S]] w fun q w' => q = .returned (.bool true) ∧ Below w.heap.size w w' := by
  have B0 := Lib.hid (bel_alloc1 w (.cells #[.int .i64 e, .int .i64 S] 31))
  have X0 := Lib.hid (Blk.new w #[.int .i64 e, .int .i64 S] 31)
  have heq := fun w => eqSig 0 0 0 0 w
  simp only [BEq.rfl, Bool.and_self] at heq
  go_enter Tryz.func4, Tryz.ntmps4
  go_upto_region 6 with (first
    | (go_at_call 5; ((with_reducible refine (sane15_any _ (Lib.hid (hk.out.below B0.out))).mono ?_); rintro q W1 ⟨rfl, hb⟩; have B1 := Lib.hid (bel_trans B0.out hb); have X1 := Lib.hid (X0.out.below hb X0.out.lt); have cX0 := X1.out.cell 0; have cX1 := X1.out.cell 1; clear hb))
    | (go_at_call 12; ((with_reducible refine (finish_no key r u v s p m cp _ hbad).mono ?_); rintro q W2 ⟨rfl, hb⟩; have B2 := Lib.hid (bel_trans B1.out hb); have X2 := Lib.hid (X1.out.below hb X1.out.lt); have cX0 := X2.out.cell 0; have cX1 := X2.out.cell 1; clear hb)))
  have hb := bel_alloc1 W2 (.cells #[.int .i64 0, .int .i64 0] 31)
  have B3 := Lib.hid (bel_trans B2.out hb)
  have Y3 := Lib.hid (Blk.new W2 #[.int .i64 0, .int .i64 0] 31)
  have X3 := Lib.hid (X2.out.below hb X2.out.lt)
  clear hb
  generalize World.alloc W2 _ = W3 at B3 Y3 X3 ⊢
  generalize W2.heap.size = nY at Y3 ⊢
  have cX0 := X3.out.cell 0
  have cX1 := X3.out.cell 1
  have cY0 := Y3.out.cell 0
  have cY1 := Y3.out.cell 1
  go_upto_region 7 with (first
    | (go_at_call 13; ((with_reducible refine (rfinish_no key r u v s p m cp _ hbad).mono ?_); rintro q W4 ⟨rfl, hb⟩; have B4 := Lib.hid (bel_trans B3.out hb); have X4 := Lib.hid (X3.out.below hb X3.out.lt); have Y4 := Lib.hid (Y3.out.below hb Y3.out.lt); have cX0 := X4.out.cell 0; have cX1 := X4.out.cell 1; have cY0 := Y4.out.cell 0; have cY1 := Y4.out.cell 1; clear hb)))
  have hb := bel_alloc1 W4 (.cells #[.int .i64 0, .int .i64 0] 31)
  have B5 := Lib.hid (bel_trans B4.out hb)
  have Z5 := Lib.hid (Blk.new W4 #[.int .i64 0, .int .i64 0] 31)
  have X5 := Lib.hid (X4.out.below hb X4.out.lt)
  have Y5 := Lib.hid (Y4.out.below hb Y4.out.lt)
  clear hb
  generalize World.alloc W4 _ = W5 at B5 Z5 X5 Y5 ⊢
  generalize W4.heap.size = nZ at Z5 ⊢
  have cX0 := X5.out.cell 0
  have cX1 := X5.out.cell 1
  have cY0 := Y5.out.cell 0
  have cY1 := Y5.out.cell 1
  have cZ0 := Z5.out.cell 0
  have cZ1 := Z5.out.cell 1
  go_wp2_with (first
    | (go_at_call 14; ((with_reducible refine (link_bad key r c s e S p m cp bs _ hbad).mono ?_); rintro q W6 ⟨rfl, hb⟩; have B6 := Lib.hid (bel_trans B5.out hb); have X6 := Lib.hid (X5.out.below hb X5.out.lt); have Y6 := Lib.hid (Y5.out.below hb Y5.out.lt); have Z6 := Lib.hid (Z5.out.below hb Z5.out.lt); have cX0 := X6.out.cell 0; have cX1 := X6.out.cell 1; have cY0 := Y6.out.cell 0; have cY1 := Y6.out.cell 1; have cZ0 := Z6.out.cell 0; have cZ1 := Z6.out.cell 1; clear hb))
    | (go_at_call 15; ((with_reducible refine (rlink_bad key r c s e S p m cp bs _ hbad).mono ?_); rintro q W7 ⟨rfl, hb⟩; have B7 := Lib.hid (bel_trans B6.out hb); have X7 := Lib.hid (X6.out.below hb X6.out.lt); have Y7 := Lib.hid (Y6.out.below hb Y6.out.lt); have Z7 := Lib.hid (Z6.out.below hb Z6.out.lt); have cX0 := X7.out.cell 0; have cX1 := X7.out.cell 1; have cY0 := Y7.out.cell 0; have cY1 := Y7.out.cell 1; have cZ0 := Z7.out.cell 0; have cZ1 := Z7.out.cell 1; clear hb)))
  go_ret
  exact ⟨rfl, B7.out⟩
set_option maxRecDepth 100000 in
set_option maxHeartbeats 4000000 in
theorem blindFS_badd (key r : Int) (p : Option Addr) (m cp : Nat) (bs : List Int) (u v c s e S : Int) (w : World) (hz : Hid (SrcW w p m cp bs)) (hk : Hid (KeysAt w)) (hm : m ≤ 600) (HT : Hid (txOk bs)) (hk1 : Hid (elB key = true)) (hr1 : Hid (elB r = true)) (pt h T ms mu : Int) (HBP : Hid (IsBp key r u v pt)) (HCH : Hid (IsCh pt key bs h)) (HTT : Hid (modQ (s + u) = T)) (HMS : Hid (modQ s = ms)) (HMU : Hid (modQ u = mu)) (HT2 : Hid ((ms + mu) % 1073741789 = T)) (HV1 : Hid (IsVer key bs h T false)) (x z : Int) (hsd : Hid (IsSides key r c s x z)) (hxz : Hid ((x != z) = true)) (hxe : Hid ((x == z) = false)) : Calls Tryz.prog 4 #[.int .i64 key, .int .i64 r, .slice p m cp, .int .i64 u, .int .i64 v, .int .i64 c, .int .i64 s, .agg #[.int .i64 e, .int .i64 S]] w fun q w' => q = .returned (.bool true) ∧ Below w.heap.size w w' := by
  have B0 := Lib.hid (bel_alloc1 w (.cells #[.int .i64 e, .int .i64 S] 31))
  have X0 := Lib.hid (Blk.new w #[.int .i64 e, .int .i64 S] 31)
  have heq := fun w => eqSig 0 0 0 0 w
  simp only [BEq.rfl, Bool.and_self] at heq
  go_enter Tryz.func4, Tryz.ntmps4
  go_upto_region 6 with (first
    | (go_at_call 5; ((with_reducible refine (sane15_any _ (Lib.hid (hk.out.below B0.out))).mono ?_); rintro q W1 ⟨rfl, hb⟩; have B1 := Lib.hid (bel_trans B0.out hb); have X1 := Lib.hid (X0.out.below hb X0.out.lt); have cX0 := X1.out.cell 0; have cX1 := X1.out.cell 1; clear hb))
    | (go_at_call 12; ((with_reducible refine (finish_bad key r u v s pt h T p m cp bs _ hk1 hr1 HT (Lib.hid (hz.out.below B1.out)) (Lib.hid (hk.out.below B1.out)) HBP HCH HTT HV1).mono ?_); rintro q W2 ⟨rfl, hb⟩; have B2 := Lib.hid (bel_trans B1.out hb); have X2 := Lib.hid (X1.out.below hb X1.out.lt); have cX0 := X2.out.cell 0; have cX1 := X2.out.cell 1; clear hb)))
  have hb := bel_alloc1 W2 (.cells #[.int .i64 0, .int .i64 0] 31)
  have B3 := Lib.hid (bel_trans B2.out hb)
  have Y3 := Lib.hid (Blk.new W2 #[.int .i64 0, .int .i64 0] 31)
  have X3 := Lib.hid (X2.out.below hb X2.out.lt)
  clear hb
  generalize World.alloc W2 _ = W3 at B3 Y3 X3 ⊢
  generalize W2.heap.size = nY at Y3 ⊢
  have cX0 := X3.out.cell 0
  have cX1 := X3.out.cell 1
  have cY0 := Y3.out.cell 0
  have cY1 := Y3.out.cell 1
  go_upto_region 7 with (first
    | (go_at_call 13; ((with_reducible refine (rfinish_bad key r u v s pt h T ms mu p m cp bs _ hk1 hr1 HT (Lib.hid (hz.out.below B3.out)) HBP HCH HMS HMU HT2 HV1).mono ?_); rintro q W4 ⟨rfl, hb⟩; have B4 := Lib.hid (bel_trans B3.out hb); have X4 := Lib.hid (X3.out.below hb X3.out.lt); have Y4 := Lib.hid (Y3.out.below hb Y3.out.lt); have cX0 := X4.out.cell 0; have cX1 := X4.out.cell 1; have cY0 := Y4.out.cell 0; have cY1 := Y4.out.cell 1; clear hb)))
  have hb := bel_alloc1 W4 (.cells #[.int .i64 0, .int .i64 0] 31)
  have B5 := Lib.hid (bel_trans B4.out hb)
  have Z5 := Lib.hid (Blk.new W4 #[.int .i64 0, .int .i64 0] 31)
  have X5 := Lib.hid (X4.out.below hb X4.out.lt)
  have Y5 := Lib.hid (Y4.out.below hb Y4.out.lt)
  clear hb
  generalize World.alloc W4 _ = W5 at B5 Z5 X5 Y5 ⊢
  generalize W4.heap.size = nZ at Z5 ⊢
  have cX0 := X5.out.cell 0
  have cX1 := X5.out.cell 1
  have cY0 := Y5.out.cell 0
  have cY1 := Y5.out.cell 1
  have cZ0 := Z5.out.cell 0
  have cZ1 := Z5.out.cell 1
  go_wp2_with (first
    | (go_at_call 14; ((with_reducible refine (link_differ key r c s e S p m cp bs _ hk1 hr1 x z hsd hxz.out).mono ?_); rintro q W6 ⟨rfl, hb⟩; have B6 := Lib.hid (bel_trans B5.out hb); have X6 := Lib.hid (X5.out.below hb X5.out.lt); have Y6 := Lib.hid (Y5.out.below hb Y5.out.lt); have Z6 := Lib.hid (Z5.out.below hb Z5.out.lt); have cX0 := X6.out.cell 0; have cX1 := X6.out.cell 1; have cY0 := Y6.out.cell 0; have cY1 := Y6.out.cell 1; have cZ0 := Z6.out.cell 0; have cZ1 := Z6.out.cell 1; clear hb))
    | (go_at_call 15; ((with_reducible refine (rlink_differ key r c s e S p m cp bs _ hk1 hr1 x z hsd hxe).mono ?_); rintro q W7 ⟨rfl, hb⟩; have B7 := Lib.hid (bel_trans B6.out hb); have X7 := Lib.hid (X6.out.below hb X6.out.lt); have Y7 := Lib.hid (Y6.out.below hb Y6.out.lt); have Z7 := Lib.hid (Z6.out.below hb Z6.out.lt); have cX0 := X7.out.cell 0; have cX1 := X7.out.cell 1; have cY0 := Y7.out.cell 0; have cY1 := Y7.out.cell 1; have cZ0 := Z7.out.cell 0; have cZ1 := Z7.out.cell 1; clear hb)))
  go_ret
  exact ⟨rfl, B7.out⟩
set_option maxRecDepth 100000 in
set_option maxHeartbeats 4000000 in
theorem blindFS_badw (key r : Int) (p : Option Addr) (m cp : Nat) (bs : List Int) (u v c s e S : Int) (w : World) (hz : Hid (SrcW w p m cp bs)) (hk : Hid (KeysAt w)) (hm : m ≤ 600) (HT : Hid (txOk bs)) (hk1 : Hid (elB key = true)) (hr1 : Hid (elB r = true)) (pt h T ms mu : Int) (HBP : Hid (IsBp key r u v pt)) (HCH : Hid (IsCh pt key bs h)) (HTT : Hid (modQ (s + u) = T)) (HMS : Hid (modQ s = ms)) (HMU : Hid (modQ u = mu)) (HT2 : Hid ((ms + mu) % 1073741789 = T)) (HV1 : Hid (IsVer key bs h T false)) (x z : Int) (hsd : Hid (IsSides key r c s x z)) (hxz : Hid ((x != z) = false)) (hxe : Hid ((x == z) = true)) (HV : Hid (IsVer key bs e S false)) : Calls Tryz.prog 4 #[.int .i64 key, .int .i64 r, .slice p m cp, .int .i64 u, .int .i64 v, .int .i64 c, .int .i64 s, .agg #[.int .i64 e, .int .i64 S]] w fun q w' => q = .returned (.bool true) ∧ Below w.heap.size w w' := by
  have B0 := Lib.hid (bel_alloc1 w (.cells #[.int .i64 e, .int .i64 S] 31))
  have X0 := Lib.hid (Blk.new w #[.int .i64 e, .int .i64 S] 31)
  have heq := fun w => eqSig 0 0 0 0 w
  simp only [BEq.rfl, Bool.and_self] at heq
  go_enter Tryz.func4, Tryz.ntmps4
  go_upto_region 6 with (first
    | (go_at_call 5; ((with_reducible refine (sane15_any _ (Lib.hid (hk.out.below B0.out))).mono ?_); rintro q W1 ⟨rfl, hb⟩; have B1 := Lib.hid (bel_trans B0.out hb); have X1 := Lib.hid (X0.out.below hb X0.out.lt); have cX0 := X1.out.cell 0; have cX1 := X1.out.cell 1; clear hb))
    | (go_at_call 12; ((with_reducible refine (finish_bad key r u v s pt h T p m cp bs _ hk1 hr1 HT (Lib.hid (hz.out.below B1.out)) (Lib.hid (hk.out.below B1.out)) HBP HCH HTT HV1).mono ?_); rintro q W2 ⟨rfl, hb⟩; have B2 := Lib.hid (bel_trans B1.out hb); have X2 := Lib.hid (X1.out.below hb X1.out.lt); have cX0 := X2.out.cell 0; have cX1 := X2.out.cell 1; clear hb)))
  have hb := bel_alloc1 W2 (.cells #[.int .i64 0, .int .i64 0] 31)
  have B3 := Lib.hid (bel_trans B2.out hb)
  have Y3 := Lib.hid (Blk.new W2 #[.int .i64 0, .int .i64 0] 31)
  have X3 := Lib.hid (X2.out.below hb X2.out.lt)
  clear hb
  generalize World.alloc W2 _ = W3 at B3 Y3 X3 ⊢
  generalize W2.heap.size = nY at Y3 ⊢
  have cX0 := X3.out.cell 0
  have cX1 := X3.out.cell 1
  have cY0 := Y3.out.cell 0
  have cY1 := Y3.out.cell 1
  go_upto_region 7 with (first
    | (go_at_call 13; ((with_reducible refine (rfinish_bad key r u v s pt h T ms mu p m cp bs _ hk1 hr1 HT (Lib.hid (hz.out.below B3.out)) HBP HCH HMS HMU HT2 HV1).mono ?_); rintro q W4 ⟨rfl, hb⟩; have B4 := Lib.hid (bel_trans B3.out hb); have X4 := Lib.hid (X3.out.below hb X3.out.lt); have Y4 := Lib.hid (Y3.out.below hb Y3.out.lt); have cX0 := X4.out.cell 0; have cX1 := X4.out.cell 1; have cY0 := Y4.out.cell 0; have cY1 := Y4.out.cell 1; clear hb)))
  have hb := bel_alloc1 W4 (.cells #[.int .i64 0, .int .i64 0] 31)
  have B5 := Lib.hid (bel_trans B4.out hb)
  have Z5 := Lib.hid (Blk.new W4 #[.int .i64 0, .int .i64 0] 31)
  have X5 := Lib.hid (X4.out.below hb X4.out.lt)
  have Y5 := Lib.hid (Y4.out.below hb Y4.out.lt)
  clear hb
  generalize World.alloc W4 _ = W5 at B5 Z5 X5 Y5 ⊢
  generalize W4.heap.size = nZ at Z5 ⊢
  have cX0 := X5.out.cell 0
  have cX1 := X5.out.cell 1
  have cY0 := Y5.out.cell 0
  have cY1 := Y5.out.cell 1
  have cZ0 := Z5.out.cell 0
  have cZ1 := Z5.out.cell 1
  go_wp2_with (first
    | (go_at_call 14; ((with_reducible refine (link_wrong key r c s e S p m cp bs _ hk1 hr1 x z hsd hxz.out HT (Lib.hid (hz.out.below B5.out)) (Lib.hid (hk.out.below B5.out)) HV).mono ?_); rintro q W6 ⟨rfl, hb⟩; have B6 := Lib.hid (bel_trans B5.out hb); have X6 := Lib.hid (X5.out.below hb X5.out.lt); have Y6 := Lib.hid (Y5.out.below hb Y5.out.lt); have Z6 := Lib.hid (Z5.out.below hb Z5.out.lt); have cX0 := X6.out.cell 0; have cX1 := X6.out.cell 1; have cY0 := Y6.out.cell 0; have cY1 := Y6.out.cell 1; have cZ0 := Z6.out.cell 0; have cZ1 := Z6.out.cell 1; clear hb))
    | (go_at_call 15; ((with_reducible refine (rlink_wrong key r c s e S p m cp bs _ hk1 hr1 x z hsd hxe HT (Lib.hid (hz.out.below B6.out)) HV).mono ?_); rintro q W7 ⟨rfl, hb⟩; have B7 := Lib.hid (bel_trans B6.out hb); have X7 := Lib.hid (X6.out.below hb X6.out.lt); have Y7 := Lib.hid (Y6.out.below hb Y6.out.lt); have Z7 := Lib.hid (Z6.out.below hb Z6.out.lt); have cX0 := X7.out.cell 0; have cX1 := X7.out.cell 1; have cY0 := Y7.out.cell 0; have cY1 := Y7.out.cell 1; have cZ0 := Z7.out.cell 0; have cZ1 := Z7.out.cell 1; clear hb)))
  go_ret
  exact ⟨rfl, B7.out⟩
set_option maxRecDepth 100000 in
set_option maxHeartbeats 4000000 in
theorem blindFS_bady (key r : Int) (p : Option Addr) (m cp : Nat) (bs : List Int) (u v c s e S : Int) (w : World) (hz : Hid (SrcW w p m cp bs)) (hk : Hid (KeysAt w)) (hm : m ≤ 600) (HT : Hid (txOk bs)) (hk1 : Hid (elB key = true)) (hr1 : Hid (elB r = true)) (pt h T ms mu : Int) (HBP : Hid (IsBp key r u v pt)) (HCH : Hid (IsCh pt key bs h)) (HTT : Hid (modQ (s + u) = T)) (HMS : Hid (modQ s = ms)) (HMU : Hid (modQ u = mu)) (HT2 : Hid ((ms + mu) % 1073741789 = T)) (HV1 : Hid (IsVer key bs h T false)) (x z : Int) (hsd : Hid (IsSides key r c s x z)) (hxz : Hid ((x != z) = false)) (hxe : Hid ((x == z) = true)) (HV : Hid (IsVer key bs e S true)) (U V mc : Int) (HMC : Hid (modQ c = mc)) (HU : Hid (modQ (S - s) = U)) (HVV : Hid (modQ (c - e) = V)) (HU2 : Hid (modQ (S - ms) = U)) (HV2 : Hid (modQ (mc - e) = V)) : Calls Tryz.prog 4 #[.int .i64 key, .int .i64 r, .slice p m cp, .int .i64 u, .int .i64 v, .int .i64 c, .int .i64 s, .agg #[.int .i64 e, .int .i64 S]] w fun q w' => q = .returned (.bool true) ∧ Below w.heap.size w w' := by
  have B0 := Lib.hid (bel_alloc1 w (.cells #[.int .i64 e, .int .i64 S] 31))
  have X0 := Lib.hid (Blk.new w #[.int .i64 e, .int .i64 S] 31)
  have heq := fun w => eqSig 0 0 0 0 w
  simp only [BEq.rfl, Bool.and_self] at heq
  go_enter Tryz.func4, Tryz.ntmps4
  go_upto_region 6 with (first
    | (go_at_call 5; ((with_reducible refine (sane15_any _ (Lib.hid (hk.out.below B0.out))).mono ?_); rintro q W1 ⟨rfl, hb⟩; have B1 := Lib.hid (bel_trans B0.out hb); have X1 := Lib.hid (X0.out.below hb X0.out.lt); have cX0 := X1.out.cell 0; have cX1 := X1.out.cell 1; clear hb))
    | (go_at_call 12; ((with_reducible refine (finish_bad key r u v s pt h T p m cp bs _ hk1 hr1 HT (Lib.hid (hz.out.below B1.out)) (Lib.hid (hk.out.below B1.out)) HBP HCH HTT HV1).mono ?_); rintro q W2 ⟨rfl, hb⟩; have B2 := Lib.hid (bel_trans B1.out hb); have X2 := Lib.hid (X1.out.below hb X1.out.lt); have cX0 := X2.out.cell 0; have cX1 := X2.out.cell 1; clear hb)))
  have hb := bel_alloc1 W2 (.cells #[.int .i64 0, .int .i64 0] 31)
  have B3 := Lib.hid (bel_trans B2.out hb)
  have Y3 := Lib.hid (Blk.new W2 #[.int .i64 0, .int .i64 0] 31)
  have X3 := Lib.hid (X2.out.below hb X2.out.lt)
  clear hb
  generalize World.alloc W2 _ = W3 at B3 Y3 X3 ⊢
  generalize W2.heap.size = nY at Y3 ⊢
  have cX0 := X3.out.cell 0
  have cX1 := X3.out.cell 1
  have cY0 := Y3.out.cell 0
  have cY1 := Y3.out.cell 1
  go_upto_region 7 with (first
    | (go_at_call 13; ((with_reducible refine (rfinish_bad key r u v s pt h T ms mu p m cp bs _ hk1 hr1 HT (Lib.hid (hz.out.below B3.out)) HBP HCH HMS HMU HT2 HV1).mono ?_); rintro q W4 ⟨rfl, hb⟩; have B4 := Lib.hid (bel_trans B3.out hb); have X4 := Lib.hid (X3.out.below hb X3.out.lt); have Y4 := Lib.hid (Y3.out.below hb Y3.out.lt); have cX0 := X4.out.cell 0; have cX1 := X4.out.cell 1; have cY0 := Y4.out.cell 0; have cY1 := Y4.out.cell 1; clear hb)))
  have hb := bel_alloc1 W4 (.cells #[.int .i64 0, .int .i64 0] 31)
  have B5 := Lib.hid (bel_trans B4.out hb)
  have Z5 := Lib.hid (Blk.new W4 #[.int .i64 0, .int .i64 0] 31)
  have X5 := Lib.hid (X4.out.below hb X4.out.lt)
  have Y5 := Lib.hid (Y4.out.below hb Y4.out.lt)
  clear hb
  generalize World.alloc W4 _ = W5 at B5 Z5 X5 Y5 ⊢
  generalize W4.heap.size = nZ at Z5 ⊢
  have cX0 := X5.out.cell 0
  have cX1 := X5.out.cell 1
  have cY0 := Y5.out.cell 0
  have cY1 := Y5.out.cell 1
  have cZ0 := Z5.out.cell 0
  have cZ1 := Z5.out.cell 1
  go_wp2_with (first
    | (go_at_call 14; ((with_reducible refine (link_yes key r c s e S p m cp bs _ hk1 hr1 x z hsd hxz.out HT (Lib.hid (hz.out.below B5.out)) (Lib.hid (hk.out.below B5.out)) HV U V HU HVV).mono ?_); rintro q W6 ⟨rfl, hb⟩; have B6 := Lib.hid (bel_trans B5.out hb); have X6 := Lib.hid (X5.out.below hb X5.out.lt); have Y6 := Lib.hid (Y5.out.below hb Y5.out.lt); have Z6 := Lib.hid (Z5.out.below hb Z5.out.lt); have cX0 := X6.out.cell 0; have cX1 := X6.out.cell 1; have cY0 := Y6.out.cell 0; have cY1 := Y6.out.cell 1; have cZ0 := Z6.out.cell 0; have cZ1 := Z6.out.cell 1; clear hb))
    | (go_at_call 15; ((with_reducible refine (rlink_yes key r c s e S p m cp bs _ hk1 hr1 x z hsd hxe HT (Lib.hid (hz.out.below B6.out)) HV U V ms mc HMS HMC HU2 HV2).mono ?_); rintro q W7 ⟨rfl, hb⟩; have B7 := Lib.hid (bel_trans B6.out hb); have X7 := Lib.hid (X6.out.below hb X6.out.lt); have Y7 := Lib.hid (Y6.out.below hb Y6.out.lt); have Z7 := Lib.hid (Z6.out.below hb Z6.out.lt); have cX0 := X7.out.cell 0; have cX1 := X7.out.cell 1; have cY0 := Y7.out.cell 0; have cY1 := Y7.out.cell 1; have cZ0 := Z7.out.cell 0; have cZ1 := Z7.out.cell 1; clear hb)))
  go_ret
  exact ⟨rfl, B7.out⟩
set_option maxRecDepth 100000 in
set_option maxHeartbeats 4000000 in
theorem blindFS_yesd (key r : Int) (p : Option Addr) (m cp : Nat) (bs : List Int) (u v c s e S : Int) (w : World) (hz : Hid (SrcW w p m cp bs)) (hk : Hid (KeysAt w)) (hm : m ≤ 600) (HT : Hid (txOk bs)) (hk1 : Hid (elB key = true)) (hr1 : Hid (elB r = true)) (pt h T ms mu : Int) (HBP : Hid (IsBp key r u v pt)) (HCH : Hid (IsCh pt key bs h)) (HTT : Hid (modQ (s + u) = T)) (HMS : Hid (modQ s = ms)) (HMU : Hid (modQ u = mu)) (HT2 : Hid ((ms + mu) % 1073741789 = T)) (HV1 : Hid (IsVer key bs h T true)) (x z : Int) (hsd : Hid (IsSides key r c s x z)) (hxz : Hid ((x != z) = true)) (hxe : Hid ((x == z) = false)) : Calls Tryz.prog 4 #[.int .i64 key, .int .i64 r, .slice p m cp, .int .i64 u, .int .i64 v, .int .i64 c, .int .i64 s, .agg #[.int .i64 e, .int .i64 S]] w fun q w' => q = .returned (.bool true) ∧ Below w.heap.size w w' := by
  have B0 := Lib.hid (bel_alloc1 w (.cells #[.int .i64 e, .int .i64 S] 31))
  have X0 := Lib.hid (Blk.new w #[.int .i64 e, .int .i64 S] 31)
  have heq := fun w => eqSig h T h T w
  simp only [BEq.rfl, Bool.and_self] at heq
  go_enter Tryz.func4, Tryz.ntmps4
  go_upto_region 6 with (first
    | (go_at_call 5; ((with_reducible refine (sane15_any _ (Lib.hid (hk.out.below B0.out))).mono ?_); rintro q W1 ⟨rfl, hb⟩; have B1 := Lib.hid (bel_trans B0.out hb); have X1 := Lib.hid (X0.out.below hb X0.out.lt); have cX0 := X1.out.cell 0; have cX1 := X1.out.cell 1; clear hb))
    | (go_at_call 12; ((with_reducible refine (finish_yes key r u v s pt h T p m cp bs _ hk1 hr1 HT (Lib.hid (hz.out.below B1.out)) (Lib.hid (hk.out.below B1.out)) HBP HCH HTT HV1).mono ?_); rintro q W2 ⟨rfl, hb⟩; have B2 := Lib.hid (bel_trans B1.out hb); have X2 := Lib.hid (X1.out.below hb X1.out.lt); have cX0 := X2.out.cell 0; have cX1 := X2.out.cell 1; clear hb)))
  have hb := bel_alloc1 W2 (.cells #[.int .i64 h, .int .i64 T] 31)
  have B3 := Lib.hid (bel_trans B2.out hb)
  have Y3 := Lib.hid (Blk.new W2 #[.int .i64 h, .int .i64 T] 31)
  have X3 := Lib.hid (X2.out.below hb X2.out.lt)
  clear hb
  generalize World.alloc W2 _ = W3 at B3 Y3 X3 ⊢
  generalize W2.heap.size = nY at Y3 ⊢
  have cX0 := X3.out.cell 0
  have cX1 := X3.out.cell 1
  have cY0 := Y3.out.cell 0
  have cY1 := Y3.out.cell 1
  go_upto_region 7 with (first
    | (go_at_call 13; ((with_reducible refine (rfinish_yes key r u v s pt h T ms mu p m cp bs _ hk1 hr1 HT (Lib.hid (hz.out.below B3.out)) HBP HCH HMS HMU HT2 HV1).mono ?_); rintro q W4 ⟨rfl, hb⟩; have B4 := Lib.hid (bel_trans B3.out hb); have X4 := Lib.hid (X3.out.below hb X3.out.lt); have Y4 := Lib.hid (Y3.out.below hb Y3.out.lt); have cX0 := X4.out.cell 0; have cX1 := X4.out.cell 1; have cY0 := Y4.out.cell 0; have cY1 := Y4.out.cell 1; clear hb)))
  have hb := bel_alloc1 W4 (.cells #[.int .i64 h, .int .i64 T] 31)
  have B5 := Lib.hid (bel_trans B4.out hb)
  have Z5 := Lib.hid (Blk.new W4 #[.int .i64 h, .int .i64 T] 31)
  have X5 := Lib.hid (X4.out.below hb X4.out.lt)
  have Y5 := Lib.hid (Y4.out.below hb Y4.out.lt)
  clear hb
  generalize World.alloc W4 _ = W5 at B5 Z5 X5 Y5 ⊢
  generalize W4.heap.size = nZ at Z5 ⊢
  have cX0 := X5.out.cell 0
  have cX1 := X5.out.cell 1
  have cY0 := Y5.out.cell 0
  have cY1 := Y5.out.cell 1
  have cZ0 := Z5.out.cell 0
  have cZ1 := Z5.out.cell 1
  go_wp2_with (first
    | (go_at_call 14; ((with_reducible refine (link_differ key r c s e S p m cp bs _ hk1 hr1 x z hsd hxz.out).mono ?_); rintro q W6 ⟨rfl, hb⟩; have B6 := Lib.hid (bel_trans B5.out hb); have X6 := Lib.hid (X5.out.below hb X5.out.lt); have Y6 := Lib.hid (Y5.out.below hb Y5.out.lt); have Z6 := Lib.hid (Z5.out.below hb Z5.out.lt); have cX0 := X6.out.cell 0; have cX1 := X6.out.cell 1; have cY0 := Y6.out.cell 0; have cY1 := Y6.out.cell 1; have cZ0 := Z6.out.cell 0; have cZ1 := Z6.out.cell 1; clear hb))
    | (go_at_call 15; ((with_reducible refine (rlink_differ key r c s e S p m cp bs _ hk1 hr1 x z hsd hxe).mono ?_); rintro q W7 ⟨rfl, hb⟩; have B7 := Lib.hid (bel_trans B6.out hb); have X7 := Lib.hid (X6.out.below hb X6.out.lt); have Y7 := Lib.hid (Y6.out.below hb Y6.out.lt); have Z7 := Lib.hid (Z6.out.below hb Z6.out.lt); have cX0 := X7.out.cell 0; have cX1 := X7.out.cell 1; have cY0 := Y7.out.cell 0; have cY1 := Y7.out.cell 1; have cZ0 := Z7.out.cell 0; have cZ1 := Z7.out.cell 1; clear hb)))
  go_ret
  exact ⟨rfl, B7.out⟩
set_option maxRecDepth 100000 in
set_option maxHeartbeats 4000000 in
theorem blindFS_yesw (key r : Int) (p : Option Addr) (m cp : Nat) (bs : List Int) (u v c s e S : Int) (w : World) (hz : Hid (SrcW w p m cp bs)) (hk : Hid (KeysAt w)) (hm : m ≤ 600) (HT : Hid (txOk bs)) (hk1 : Hid (elB key = true)) (hr1 : Hid (elB r = true)) (pt h T ms mu : Int) (HBP : Hid (IsBp key r u v pt)) (HCH : Hid (IsCh pt key bs h)) (HTT : Hid (modQ (s + u) = T)) (HMS : Hid (modQ s = ms)) (HMU : Hid (modQ u = mu)) (HT2 : Hid ((ms + mu) % 1073741789 = T)) (HV1 : Hid (IsVer key bs h T true)) (x z : Int) (hsd : Hid (IsSides key r c s x z)) (hxz : Hid ((x != z) = false)) (hxe : Hid ((x == z) = true)) (HV : Hid (IsVer key bs e S false)) : Calls Tryz.prog 4 #[.int .i64 key, .int .i64 r, .slice p m cp, .int .i64 u, .int .i64 v, .int .i64 c, .int .i64 s, .agg #[.int .i64 e, .int .i64 S]] w fun q w' => q = .returned (.bool true) ∧ Below w.heap.size w w' := by
  have B0 := Lib.hid (bel_alloc1 w (.cells #[.int .i64 e, .int .i64 S] 31))
  have X0 := Lib.hid (Blk.new w #[.int .i64 e, .int .i64 S] 31)
  have heq := fun w => eqSig h T h T w
  simp only [BEq.rfl, Bool.and_self] at heq
  go_enter Tryz.func4, Tryz.ntmps4
  go_upto_region 6 with (first
    | (go_at_call 5; ((with_reducible refine (sane15_any _ (Lib.hid (hk.out.below B0.out))).mono ?_); rintro q W1 ⟨rfl, hb⟩; have B1 := Lib.hid (bel_trans B0.out hb); have X1 := Lib.hid (X0.out.below hb X0.out.lt); have cX0 := X1.out.cell 0; have cX1 := X1.out.cell 1; clear hb))
    | (go_at_call 12; ((with_reducible refine (finish_yes key r u v s pt h T p m cp bs _ hk1 hr1 HT (Lib.hid (hz.out.below B1.out)) (Lib.hid (hk.out.below B1.out)) HBP HCH HTT HV1).mono ?_); rintro q W2 ⟨rfl, hb⟩; have B2 := Lib.hid (bel_trans B1.out hb); have X2 := Lib.hid (X1.out.below hb X1.out.lt); have cX0 := X2.out.cell 0; have cX1 := X2.out.cell 1; clear hb)))
  have hb := bel_alloc1 W2 (.cells #[.int .i64 h, .int .i64 T] 31)
  have B3 := Lib.hid (bel_trans B2.out hb)
  have Y3 := Lib.hid (Blk.new W2 #[.int .i64 h, .int .i64 T] 31)
  have X3 := Lib.hid (X2.out.below hb X2.out.lt)
  clear hb
  generalize World.alloc W2 _ = W3 at B3 Y3 X3 ⊢
  generalize W2.heap.size = nY at Y3 ⊢
  have cX0 := X3.out.cell 0
  have cX1 := X3.out.cell 1
  have cY0 := Y3.out.cell 0
  have cY1 := Y3.out.cell 1
  go_upto_region 7 with (first
    | (go_at_call 13; ((with_reducible refine (rfinish_yes key r u v s pt h T ms mu p m cp bs _ hk1 hr1 HT (Lib.hid (hz.out.below B3.out)) HBP HCH HMS HMU HT2 HV1).mono ?_); rintro q W4 ⟨rfl, hb⟩; have B4 := Lib.hid (bel_trans B3.out hb); have X4 := Lib.hid (X3.out.below hb X3.out.lt); have Y4 := Lib.hid (Y3.out.below hb Y3.out.lt); have cX0 := X4.out.cell 0; have cX1 := X4.out.cell 1; have cY0 := Y4.out.cell 0; have cY1 := Y4.out.cell 1; clear hb)))
  have hb := bel_alloc1 W4 (.cells #[.int .i64 h, .int .i64 T] 31)
  have B5 := Lib.hid (bel_trans B4.out hb)
  have Z5 := Lib.hid (Blk.new W4 #[.int .i64 h, .int .i64 T] 31)
  have X5 := Lib.hid (X4.out.below hb X4.out.lt)
  have Y5 := Lib.hid (Y4.out.below hb Y4.out.lt)
  clear hb
  generalize World.alloc W4 _ = W5 at B5 Z5 X5 Y5 ⊢
  generalize W4.heap.size = nZ at Z5 ⊢
  have cX0 := X5.out.cell 0
  have cX1 := X5.out.cell 1
  have cY0 := Y5.out.cell 0
  have cY1 := Y5.out.cell 1
  have cZ0 := Z5.out.cell 0
  have cZ1 := Z5.out.cell 1
  go_wp2_with (first
    | (go_at_call 14; ((with_reducible refine (link_wrong key r c s e S p m cp bs _ hk1 hr1 x z hsd hxz.out HT (Lib.hid (hz.out.below B5.out)) (Lib.hid (hk.out.below B5.out)) HV).mono ?_); rintro q W6 ⟨rfl, hb⟩; have B6 := Lib.hid (bel_trans B5.out hb); have X6 := Lib.hid (X5.out.below hb X5.out.lt); have Y6 := Lib.hid (Y5.out.below hb Y5.out.lt); have Z6 := Lib.hid (Z5.out.below hb Z5.out.lt); have cX0 := X6.out.cell 0; have cX1 := X6.out.cell 1; have cY0 := Y6.out.cell 0; have cY1 := Y6.out.cell 1; have cZ0 := Z6.out.cell 0; have cZ1 := Z6.out.cell 1; clear hb))
    | (go_at_call 15; ((with_reducible refine (rlink_wrong key r c s e S p m cp bs _ hk1 hr1 x z hsd hxe HT (Lib.hid (hz.out.below B6.out)) HV).mono ?_); rintro q W7 ⟨rfl, hb⟩; have B7 := Lib.hid (bel_trans B6.out hb); have X7 := Lib.hid (X6.out.below hb X6.out.lt); have Y7 := Lib.hid (Y6.out.below hb Y6.out.lt); have Z7 := Lib.hid (Z6.out.below hb Z6.out.lt); have cX0 := X7.out.cell 0; have cX1 := X7.out.cell 1; have cY0 := Y7.out.cell 0; have cY1 := Y7.out.cell 1; have cZ0 := Z7.out.cell 0; have cZ1 := Z7.out.cell 1; clear hb)))
  go_ret
  exact ⟨rfl, B7.out⟩
set_option maxRecDepth 100000 in
set_option maxHeartbeats 4000000 in
theorem blindFS_yesy (key r : Int) (p : Option Addr) (m cp : Nat) (bs : List Int) (u v c s e S : Int) (w : World) (hz : Hid (SrcW w p m cp bs)) (hk : Hid (KeysAt w)) (hm : m ≤ 600) (HT : Hid (txOk bs)) (hk1 : Hid (elB key = true)) (hr1 : Hid (elB r = true)) (pt h T ms mu : Int) (HBP : Hid (IsBp key r u v pt)) (HCH : Hid (IsCh pt key bs h)) (HTT : Hid (modQ (s + u) = T)) (HMS : Hid (modQ s = ms)) (HMU : Hid (modQ u = mu)) (HT2 : Hid ((ms + mu) % 1073741789 = T)) (HV1 : Hid (IsVer key bs h T true)) (x z : Int) (hsd : Hid (IsSides key r c s x z)) (hxz : Hid ((x != z) = false)) (hxe : Hid ((x == z) = true)) (HV : Hid (IsVer key bs e S true)) (U V mc : Int) (HMC : Hid (modQ c = mc)) (HU : Hid (modQ (S - s) = U)) (HVV : Hid (modQ (c - e) = V)) (HU2 : Hid (modQ (S - ms) = U)) (HV2 : Hid (modQ (mc - e) = V)) : Calls Tryz.prog 4 #[.int .i64 key, .int .i64 r, .slice p m cp, .int .i64 u, .int .i64 v, .int .i64 c, .int .i64 s, .agg #[.int .i64 e, .int .i64 S]] w fun q w' => q = .returned (.bool true) ∧ Below w.heap.size w w' := by
  have B0 := Lib.hid (bel_alloc1 w (.cells #[.int .i64 e, .int .i64 S] 31))
  have X0 := Lib.hid (Blk.new w #[.int .i64 e, .int .i64 S] 31)
  have heq := fun w => eqSig h T h T w
  simp only [BEq.rfl, Bool.and_self] at heq
  go_enter Tryz.func4, Tryz.ntmps4
  go_upto_region 6 with (first
    | (go_at_call 5; ((with_reducible refine (sane15_any _ (Lib.hid (hk.out.below B0.out))).mono ?_); rintro q W1 ⟨rfl, hb⟩; have B1 := Lib.hid (bel_trans B0.out hb); have X1 := Lib.hid (X0.out.below hb X0.out.lt); have cX0 := X1.out.cell 0; have cX1 := X1.out.cell 1; clear hb))
    | (go_at_call 12; ((with_reducible refine (finish_yes key r u v s pt h T p m cp bs _ hk1 hr1 HT (Lib.hid (hz.out.below B1.out)) (Lib.hid (hk.out.below B1.out)) HBP HCH HTT HV1).mono ?_); rintro q W2 ⟨rfl, hb⟩; have B2 := Lib.hid (bel_trans B1.out hb); have X2 := Lib.hid (X1.out.below hb X1.out.lt); have cX0 := X2.out.cell 0; have cX1 := X2.out.cell 1; clear hb)))
  have hb := bel_alloc1 W2 (.cells #[.int .i64 h, .int .i64 T] 31)
  have B3 := Lib.hid (bel_trans B2.out hb)
  have Y3 := Lib.hid (Blk.new W2 #[.int .i64 h, .int .i64 T] 31)
  have X3 := Lib.hid (X2.out.below hb X2.out.lt)
  clear hb
  generalize World.alloc W2 _ = W3 at B3 Y3 X3 ⊢
  generalize W2.heap.size = nY at Y3 ⊢
  have cX0 := X3.out.cell 0
  have cX1 := X3.out.cell 1
  have cY0 := Y3.out.cell 0
  have cY1 := Y3.out.cell 1
  go_upto_region 7 with (first
    | (go_at_call 13; ((with_reducible refine (rfinish_yes key r u v s pt h T ms mu p m cp bs _ hk1 hr1 HT (Lib.hid (hz.out.below B3.out)) HBP HCH HMS HMU HT2 HV1).mono ?_); rintro q W4 ⟨rfl, hb⟩; have B4 := Lib.hid (bel_trans B3.out hb); have X4 := Lib.hid (X3.out.below hb X3.out.lt); have Y4 := Lib.hid (Y3.out.below hb Y3.out.lt); have cX0 := X4.out.cell 0; have cX1 := X4.out.cell 1; have cY0 := Y4.out.cell 0; have cY1 := Y4.out.cell 1; clear hb)))
  have hb := bel_alloc1 W4 (.cells #[.int .i64 h, .int .i64 T] 31)
  have B5 := Lib.hid (bel_trans B4.out hb)
  have Z5 := Lib.hid (Blk.new W4 #[.int .i64 h, .int .i64 T] 31)
  have X5 := Lib.hid (X4.out.below hb X4.out.lt)
  have Y5 := Lib.hid (Y4.out.below hb Y4.out.lt)
  clear hb
  generalize World.alloc W4 _ = W5 at B5 Z5 X5 Y5 ⊢
  generalize W4.heap.size = nZ at Z5 ⊢
  have cX0 := X5.out.cell 0
  have cX1 := X5.out.cell 1
  have cY0 := Y5.out.cell 0
  have cY1 := Y5.out.cell 1
  have cZ0 := Z5.out.cell 0
  have cZ1 := Z5.out.cell 1
  go_wp2_with (first
    | (go_at_call 14; ((with_reducible refine (link_yes key r c s e S p m cp bs _ hk1 hr1 x z hsd hxz.out HT (Lib.hid (hz.out.below B5.out)) (Lib.hid (hk.out.below B5.out)) HV U V HU HVV).mono ?_); rintro q W6 ⟨rfl, hb⟩; have B6 := Lib.hid (bel_trans B5.out hb); have X6 := Lib.hid (X5.out.below hb X5.out.lt); have Y6 := Lib.hid (Y5.out.below hb Y5.out.lt); have Z6 := Lib.hid (Z5.out.below hb Z5.out.lt); have cX0 := X6.out.cell 0; have cX1 := X6.out.cell 1; have cY0 := Y6.out.cell 0; have cY1 := Y6.out.cell 1; have cZ0 := Z6.out.cell 0; have cZ1 := Z6.out.cell 1; clear hb))
    | (go_at_call 15; ((with_reducible refine (rlink_yes key r c s e S p m cp bs _ hk1 hr1 x z hsd hxe HT (Lib.hid (hz.out.below B6.out)) HV U V ms mc HMS HMC HU2 HV2).mono ?_); rintro q W7 ⟨rfl, hb⟩; have B7 := Lib.hid (bel_trans B6.out hb); have X7 := Lib.hid (X6.out.below hb X6.out.lt); have Y7 := Lib.hid (Y6.out.below hb Y6.out.lt); have Z7 := Lib.hid (Z6.out.below hb Z6.out.lt); have cX0 := X7.out.cell 0; have cX1 := X7.out.cell 1; have cY0 := Y7.out.cell 0; have cY1 := Y7.out.cell 1; have cZ0 := Z7.out.cell 0; have cZ1 := Z7.out.cell 1; clear hb)))
  go_ret
  exact ⟨rfl, B7.out⟩
theorem blindFinishSpec_walk (key r : Int) (p : Option Addr) (m cp : Nat) (bs : List Int) (u v c s e S : Int) (w : World) (hz : Hid (SrcW w p m cp bs)) (hk : Hid (KeysAt w)) (hrr : ∀ z ∈ bs, 0 ≤ z ∧ z ≤ 255) : Calls Tryz.prog 4 #[.int .i64 key, .int .i64 r, .slice p m cp, .int .i64 u, .int .i64 v, .int .i64 c, .int .i64 s, .agg #[.int .i64 e, .int .i64 S]] w fun q w' => q = .returned (.bool true) ∧ Below w.heap.size w w' := by
  by_cases hm : m ≤ 600
  case neg => exact blindFS_a key r p m cp bs u v c s e S w hz hk hm
  have HT := Lib.hid (txf_of hz.out hrr hm)
  cases h12 : (elB key && elB r) with
  | false => exact blindFS_b key r p m cp bs u v c s e S w hz hk hm HT (Lib.hid h12)
  | true =>
    have h1 := (Bool.and_eq_true_iff.1 h12).1
    have h2 := (Bool.and_eq_true_iff.1 h12).2
    obtain ⟨pt, hp⟩ := isBp key r u v
    obtain ⟨h, hh⟩ := isCh pt key bs
    obtain ⟨x, z, hsd⟩ := isSides key r c s
    obtain ⟨q1, hv1⟩ := isVer key bs h (modQ (s + u))
    cases q1 with
    | false =>
      by_cases hxz : x = z
      case neg => exact blindFS_badd key r p m cp bs u v c s e S w hz hk hm HT (Lib.hid h1) (Lib.hid h2) pt h _ _ _ (Lib.hid hp) (Lib.hid hh) (Lib.hid rfl) (Lib.hid rfl) (Lib.hid rfl) (Lib.hid (by unfold modQ; omega)) (Lib.hid hv1) x z (Lib.hid hsd) (Lib.hid (by simp [hxz])) (Lib.hid (by simp [hxz]))
      have b1 : (x != z) = false := by simp [hxz]
      have b2 : (x == z) = true := by simp [hxz]
      obtain ⟨q, hv⟩ := isVer key bs e S
      cases q with
      | false => exact blindFS_badw key r p m cp bs u v c s e S w hz hk hm HT (Lib.hid h1) (Lib.hid h2) pt h _ _ _ (Lib.hid hp) (Lib.hid hh) (Lib.hid rfl) (Lib.hid rfl) (Lib.hid rfl) (Lib.hid (by unfold modQ; omega)) (Lib.hid hv1) x z (Lib.hid hsd) (Lib.hid b1) (Lib.hid b2) (Lib.hid hv)
      | true => exact blindFS_bady key r p m cp bs u v c s e S w hz hk hm HT (Lib.hid h1) (Lib.hid h2) pt h _ _ _ (Lib.hid hp) (Lib.hid hh) (Lib.hid rfl) (Lib.hid rfl) (Lib.hid rfl) (Lib.hid (by unfold modQ; omega)) (Lib.hid hv1) x z (Lib.hid hsd) (Lib.hid b1) (Lib.hid b2) (Lib.hid hv) _ _ _ (Lib.hid rfl) (Lib.hid rfl) (Lib.hid rfl) (Lib.hid (by unfold modQ; omega)) (Lib.hid (by unfold modQ; omega))
    | true =>
      by_cases hxz : x = z
      case neg => exact blindFS_yesd key r p m cp bs u v c s e S w hz hk hm HT (Lib.hid h1) (Lib.hid h2) pt h _ _ _ (Lib.hid hp) (Lib.hid hh) (Lib.hid rfl) (Lib.hid rfl) (Lib.hid rfl) (Lib.hid (by unfold modQ; omega)) (Lib.hid hv1) x z (Lib.hid hsd) (Lib.hid (by simp [hxz])) (Lib.hid (by simp [hxz]))
      have b1 : (x != z) = false := by simp [hxz]
      have b2 : (x == z) = true := by simp [hxz]
      obtain ⟨q, hv⟩ := isVer key bs e S
      cases q with
      | false => exact blindFS_yesw key r p m cp bs u v c s e S w hz hk hm HT (Lib.hid h1) (Lib.hid h2) pt h _ _ _ (Lib.hid hp) (Lib.hid hh) (Lib.hid rfl) (Lib.hid rfl) (Lib.hid rfl) (Lib.hid (by unfold modQ; omega)) (Lib.hid hv1) x z (Lib.hid hsd) (Lib.hid b1) (Lib.hid b2) (Lib.hid hv)
      | true => exact blindFS_yesy key r p m cp bs u v c s e S w hz hk hm HT (Lib.hid h1) (Lib.hid h2) pt h _ _ _ (Lib.hid hp) (Lib.hid hh) (Lib.hid rfl) (Lib.hid rfl) (Lib.hid rfl) (Lib.hid (by unfold modQ; omega)) (Lib.hid hv1) x z (Lib.hid hsd) (Lib.hid b1) (Lib.hid b2) (Lib.hid hv) _ _ _ (Lib.hid rfl) (Lib.hid rfl) (Lib.hid rfl) (Lib.hid (by unfold modQ; omega)) (Lib.hid (by unfold modQ; omega))

namespace blindFinishSpec
theorem readable : ∀ t ∈ Tryz.f4.params.toList, Tryz.prog.readableRec t = true ∧ t < Tryz.prog.types.size := by
  rw [Tryz.params4]
  intro t ht
  simp only [List.mem_cons, List.not_mem_nil, or_false] at ht
  rcases ht with rfl | rfl | rfl | rfl | rfl | rfl | rfl | rfl
  all_goals exact ⟨by kernel_rfl, by decide +kernel⟩

set_option maxRecDepth 100000 in
theorem lifted (os : Os) (started : os.Started) (H : Type) (enc : TypeId × Value → H) :
    ReturnsInHanded {} Tryz.checked os 4 .any (fun w args => (Rows.blindFinishSpecSpec.pre enc Tryz.prog Tryz.f4 [] false w args ∧ laidMetH Tryz.prog laidK w) ∧ sizedMet enc Tryz.prog Tryz.f4 (OpenSpec.ofChange Rows.blindFinishSpecSpec) false w args)
      (Rows.blindFinishSpecSpec.post enc Tryz.prog Tryz.f4 false true false false) := by
  refine returnsInHanded_of_change_and (C := Tryz.checked) (X := fun w _ => laidMetH Tryz.prog laidK w) (fun _ _ _ hh h => h.of_heap hh) own_knob started (by kernel_rfl) Tryz.func4
    (ChangeSpec.witness_shaped (enc := enc) (C := Tryz.checked) (os := os) (X := fun w _ => laidMetH Tryz.prog laidK w) false (World.doorLaid Tryz.prog 400 os) #[.int .i64 0, .int .i64 0, .slice none 0 0, .int .i64 0, .int .i64 0, .int .i64 0, .int .i64 0, .agg #[.int .i64 0, .int .i64 0]] 8 rfl (World.shaped_of_RefB (by kernel_rfl) (by kernel_rfl)) (by kernel_rfl) (by kernel_rfl) (by kernel_rfl) (door_met os _)) ?_
  intro W base args ds gs before hval0 hW _ _ hL _
  have hval : ∀ (j : Nat) t v, Tryz.f4.params[j]? = some t → args[j]? = some v → Value.okWide Tryz.prog W .any base t v := hval0
  have hW' := hW
  obtain ⟨p, q, hA0, hV, rfl, hfz, hnd⟩ := hW
  have hA : DataW.TrodAll enc Tryz.prog W 0 (fun _ => true) true Tryz.f4.params.toList args.toList ds p := hA0
  rw [Tryz.params4] at hA hval
  obtain ⟨v0, vs0, d0, ds0, p0, q0, hargs, rfl, rfl, h0, r0⟩ := trodAll_cons hA
  obtain ⟨v1, vs1, d1, ds1, p1, q1, rfl, rfl, rfl, h1, r1⟩ := trodAll_cons r0
  obtain ⟨v2, vs2, d2, ds2, p2, q2, rfl, rfl, rfl, h2, r2⟩ := trodAll_cons r1
  obtain ⟨v3, vs3, d3, ds3, p3, q3, rfl, rfl, rfl, h3, r3⟩ := trodAll_cons r2
  obtain ⟨v4, vs4, d4, ds4, p4, q4, rfl, rfl, rfl, h4, r4⟩ := trodAll_cons r3
  obtain ⟨v5, vs5, d5, ds5, p5, q5, rfl, rfl, rfl, h5, r5⟩ := trodAll_cons r4
  obtain ⟨v6, vs6, d6, ds6, p6, q6, rfl, rfl, rfl, h6, r6⟩ := trodAll_cons r5
  obtain ⟨v7, vs7, d7, ds7, p7, q7, rfl, rfl, rfl, h7, r7⟩ := trodAll_cons r6
  obtain ⟨rfl, rfl, rfl⟩ := trodAll_nil r7
  obtain rfl : args = #[v0, v1, v2, v3, v4, v5, v6, v7] := by cases args; simp_all
  obtain ⟨rfl, rfl⟩ := trodVars_none hV
  obtain ⟨a0, rfl, rfl, rfl, w0⟩ := open_int Tryz.underlying3 (hval 0 3 v0 rfl rfl) h0
  obtain ⟨a1, rfl, rfl, rfl, w1⟩ := open_int Tryz.underlying3 (hval 1 3 v1 rfl rfl) h1
  obtain ⟨s2, n2, c2, z2, rfl, w2, x2, y2, u2⟩ := open_src Tryz.underlying22 Tryz.underlying5 (by kernel_rfl) (hval 2 22 v2 rfl rfl) h2
  obtain ⟨a3, rfl, rfl, rfl, w3⟩ := open_int Tryz.underlying3 (hval 3 3 v3 rfl rfl) h3
  obtain ⟨a4, rfl, rfl, rfl, w4⟩ := open_int Tryz.underlying3 (hval 4 3 v4 rfl rfl) h4
  obtain ⟨a5, rfl, rfl, rfl, w5⟩ := open_int Tryz.underlying3 (hval 5 3 v5 rfl rfl) h5
  obtain ⟨a6, rfl, rfl, rfl, w6⟩ := open_int Tryz.underlying3 (hval 6 3 v6 rfl rfl) h6
  obtain ⟨e7, t7, rfl, w7, x7⟩ := open_sig (hval 7 31 v7 rfl rfl) h7
  have hK := of_laid hL
  clear hA0 hval0
  refine (blindFinishSpec_walk a0 a1 s2 n2 c2 z2 a3 a4 a5 a6 e7 t7 W (Lib.hid w2) (Lib.hid hK) x2).mono fun e W' ⟨he, hb⟩ => ?_
  subst he
  exact ⟨_, rfl, law_post laid_out readable rfl rfl Tryz.underlying4 hW' rfl rfl rfl hb⟩

theorem over : Rows.blindFinishSpecRow.holds Tryz.pinned (OpenSpec.ofChange Rows.blindFinishSpecSpec) :=
  OpenClaim.holds_of_wide 4 Tryz.f4 rfl rfl rfl rfl rfl rfl rfl ⟨rfl, rfl, rfl, rfl, rfl⟩ rfl rfl rfl rfl rfl (by kernel_rfl) Tryz.func4 (by kernel_rfl)
    (of_decide_eq_true (by kernel_rfl)) (by unfold Func.isWrapper; first | (rw [if_pos (by decide +kernel)]; kernel_rfl) | (rw [if_neg (by decide +kernel)]; exact ⟨rfl, rfl⟩))
    (fun os started H enc _ => lifted os started H enc)

/-- the statement: the tied card -/
theorem proved : Rows.BlindFinishSpecCardSaid :=
  Claim7.holds_tied_plain_at .later [] [.data] true (true, "f447158e6a39751497c68a2ed9a84fd5f99f8ca2eebfe285d534610ba04c3d43") true
    over (fun _ h => by cases h) (by kernel_rfl) (fun _ h => by cases h) blindFinishSpec_row_tie rfl ⟨rfl, rfl⟩ (by kernel_rfl) rfl
    (fun f fn hf hfn => by
      obtain rfl : f = 4 := Option.some.inj ((show Tryz.prog.funcNamed "franking/frankinglaw15.BlindFinishSpec" = some 4 by kernel_rfl).symm.trans hf) |>.symm
      obtain rfl : fn = Tryz.f4 := (Option.some.inj (Tryz.func4.symm.trans hfn)).symm
      exact ⟨by kernel_rfl, fun j t ht => by
        rw [Tryz.params4] at ht
        have hm : t ∈ [3, 3, 22, 3, 3, 3, 3, 31] := by simpa using Array.mem_of_getElem? ht
        have hall : ([3, 3, 22, 3, 3, 3, 3, 31].all fun u => !Tryz.prog.wantsStandIn u) = true := by kernel_rfl
        exact (show Tryz.prog.wantsStandIn t = false by simpa using List.all_eq_true.1 hall t hm)⟩)
    (by kernel_rfl)
end blindFinishSpec
end Go.Proofs.YthhlpkppcbillaaGreatDoor
