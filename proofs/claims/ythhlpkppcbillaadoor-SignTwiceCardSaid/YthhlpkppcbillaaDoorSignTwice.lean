/- Two right signatures with one point and different E give the secret of the key, with which anything can be signed. No condition. -/
import Derived.Test.YthhlpkppcbillaaDoorSigEnc
import Derived.Test.YthhlpkppcbillaaDoorSignRight
import Derived.Test.YthhlpkppcbillaaDoorRef11
namespace Go.Proofs.YthhlpkppcbillaaDoor
open Go.ChangeShapes Go.WideShapes Go.ChangeAt Go.RowKit Go.WideElems Go.Shelf
set_option linter.unusedVariables false
set_option linter.unusedSimpArgs false

set_option maxRecDepth 100000 in
set_option maxHeartbeats 4000000 in
theorem signTwice_a (key e s f t : Int) (p1 : Option Addr) (m1 c1 : Nat) (b1 : List Int) (p2 : Option Addr) (m2 c2 : Nat) (b2 : List Int) (p3 : Option Addr) (m3 c3 : Nat) (b3 : List Int) (w : World) (hz1 : Hid (SrcW w p1 m1 c1 b1)) (hz2 : Hid (SrcW w p2 m2 c2 b2)) (hz3 : Hid (SrcW w p3 m3 c3 b3)) (hk : Hid (KeysAt w)) (hm1 : ¬ m1 ≤ 600) : Calls Tryd.prog 6 #[.int .i64 key, .slice p1 m1 c1, .slice p2 m2 c2, .slice p3 m3 c3, .agg #[.int .i64 e, .int .i64 s], .agg #[.int .i64 f, .int .i64 t]] w fun r w' => r = .returned (.bool true) ∧ Below w.heap.size w w' := by
  have V1 := Lib.hid ((Blk.new w #[.int .i64 e, .int .i64 s] 24).alloc (.cells #[.int .i64 f, .int .i64 t] 24))
  have U1 := Lib.hid (show Blk ((w.alloc (.cells #[.int .i64 e, .int .i64 s] 24)).alloc (.cells #[.int .i64 f, .int .i64 t] 24)) (w.heap.size + 1) #[.int .i64 f, .int .i64 t] 24 by have := Blk.new (w.alloc (.cells #[.int .i64 e, .int .i64 s] 24)) #[.int .i64 f, .int .i64 t] 24; simpa using this)
  have B1 := Lib.hid (show Below w.heap.size w ((w.alloc (.cells #[.int .i64 e, .int .i64 s] 24)).alloc (.cells #[.int .i64 f, .int .i64 t] 24)) from (bel_alloc1 w _).alloc (by simp) _)
  go_enter Tryd.func6, Tryd.ntmps6
  go_wp2_with (first
    | (go_at_call 11; refine (sane_any _ (Lib.hid (hk.out.below B1.out))).mono ?_; rintro r w1 ⟨rfl, hb⟩; have B2 := Lib.hid (bel_trans B1.out hb); have V2 := Lib.hid (V1.out.below hb V1.out.lt); have U2 := Lib.hid (U1.out.below hb U1.out.lt); clear hb; have q0 := V2.out.cell 0; have q1 := V2.out.cell 1; have d0 := U2.out.cell 0; have d1 := U2.out.cell 1))
  go_ret
  exact ⟨rfl, B2.out⟩
set_option maxRecDepth 100000 in
set_option maxHeartbeats 4000000 in
theorem signTwice_b (key e s f t : Int) (p1 : Option Addr) (m1 c1 : Nat) (b1 : List Int) (p2 : Option Addr) (m2 c2 : Nat) (b2 : List Int) (p3 : Option Addr) (m3 c3 : Nat) (b3 : List Int) (w : World) (hz1 : Hid (SrcW w p1 m1 c1 b1)) (hz2 : Hid (SrcW w p2 m2 c2 b2)) (hz3 : Hid (SrcW w p3 m3 c3 b3)) (hk : Hid (KeysAt w)) (hm1 : m1 ≤ 600) (hm2 : ¬ m2 ≤ 600) : Calls Tryd.prog 6 #[.int .i64 key, .slice p1 m1 c1, .slice p2 m2 c2, .slice p3 m3 c3, .agg #[.int .i64 e, .int .i64 s], .agg #[.int .i64 f, .int .i64 t]] w fun r w' => r = .returned (.bool true) ∧ Below w.heap.size w w' := by
  have V1 := Lib.hid ((Blk.new w #[.int .i64 e, .int .i64 s] 24).alloc (.cells #[.int .i64 f, .int .i64 t] 24))
  have U1 := Lib.hid (show Blk ((w.alloc (.cells #[.int .i64 e, .int .i64 s] 24)).alloc (.cells #[.int .i64 f, .int .i64 t] 24)) (w.heap.size + 1) #[.int .i64 f, .int .i64 t] 24 by have := Blk.new (w.alloc (.cells #[.int .i64 e, .int .i64 s] 24)) #[.int .i64 f, .int .i64 t] 24; simpa using this)
  have B1 := Lib.hid (show Below w.heap.size w ((w.alloc (.cells #[.int .i64 e, .int .i64 s] 24)).alloc (.cells #[.int .i64 f, .int .i64 t] 24)) from (bel_alloc1 w _).alloc (by simp) _)
  go_enter Tryd.func6, Tryd.ntmps6
  go_wp2_with (first
    | (go_at_call 11; refine (sane_any _ (Lib.hid (hk.out.below B1.out))).mono ?_; rintro r w1 ⟨rfl, hb⟩; have B2 := Lib.hid (bel_trans B1.out hb); have V2 := Lib.hid (V1.out.below hb V1.out.lt); have U2 := Lib.hid (U1.out.below hb U1.out.lt); clear hb; have q0 := V2.out.cell 0; have q1 := V2.out.cell 1; have d0 := U2.out.cell 0; have d1 := U2.out.cell 1))
  go_ret
  exact ⟨rfl, B2.out⟩
set_option maxRecDepth 100000 in
set_option maxHeartbeats 4000000 in
theorem signTwice_c (key e s f t : Int) (p1 : Option Addr) (m1 c1 : Nat) (b1 : List Int) (p2 : Option Addr) (m2 c2 : Nat) (b2 : List Int) (p3 : Option Addr) (m3 c3 : Nat) (b3 : List Int) (w : World) (hz1 : Hid (SrcW w p1 m1 c1 b1)) (hz2 : Hid (SrcW w p2 m2 c2 b2)) (hz3 : Hid (SrcW w p3 m3 c3 b3)) (hk : Hid (KeysAt w)) (hm1 : m1 ≤ 600) (hm2 : m2 ≤ 600) (hm3 : ¬ m3 ≤ 600) : Calls Tryd.prog 6 #[.int .i64 key, .slice p1 m1 c1, .slice p2 m2 c2, .slice p3 m3 c3, .agg #[.int .i64 e, .int .i64 s], .agg #[.int .i64 f, .int .i64 t]] w fun r w' => r = .returned (.bool true) ∧ Below w.heap.size w w' := by
  have V1 := Lib.hid ((Blk.new w #[.int .i64 e, .int .i64 s] 24).alloc (.cells #[.int .i64 f, .int .i64 t] 24))
  have U1 := Lib.hid (show Blk ((w.alloc (.cells #[.int .i64 e, .int .i64 s] 24)).alloc (.cells #[.int .i64 f, .int .i64 t] 24)) (w.heap.size + 1) #[.int .i64 f, .int .i64 t] 24 by have := Blk.new (w.alloc (.cells #[.int .i64 e, .int .i64 s] 24)) #[.int .i64 f, .int .i64 t] 24; simpa using this)
  have B1 := Lib.hid (show Below w.heap.size w ((w.alloc (.cells #[.int .i64 e, .int .i64 s] 24)).alloc (.cells #[.int .i64 f, .int .i64 t] 24)) from (bel_alloc1 w _).alloc (by simp) _)
  go_enter Tryd.func6, Tryd.ntmps6
  go_wp2_with (first
    | (go_at_call 11; refine (sane_any _ (Lib.hid (hk.out.below B1.out))).mono ?_; rintro r w1 ⟨rfl, hb⟩; have B2 := Lib.hid (bel_trans B1.out hb); have V2 := Lib.hid (V1.out.below hb V1.out.lt); have U2 := Lib.hid (U1.out.below hb U1.out.lt); clear hb; have q0 := V2.out.cell 0; have q1 := V2.out.cell 1; have d0 := U2.out.cell 0; have d1 := U2.out.cell 1))
  go_ret
  exact ⟨rfl, B2.out⟩
set_option maxRecDepth 100000 in
set_option maxHeartbeats 4000000 in
theorem signTwice_d (key e s f t : Int) (p1 : Option Addr) (m1 c1 : Nat) (b1 : List Int) (p2 : Option Addr) (m2 c2 : Nat) (b2 : List Int) (p3 : Option Addr) (m3 c3 : Nat) (b3 : List Int) (w : World) (hz1 : Hid (SrcW w p1 m1 c1 b1)) (hz2 : Hid (SrcW w p2 m2 c2 b2)) (hz3 : Hid (SrcW w p3 m3 c3 b3)) (hk : Hid (KeysAt w)) (hm1 : m1 ≤ 600) (hm2 : m2 ≤ 600) (hm3 : m3 ≤ 600) (HT1 : Hid (txOk b1)) (HT2 : Hid (txOk b2)) (HT3 : Hid (txOk b3)) (HV1 : Hid (IsVer key b1 e s false)) : Calls Tryd.prog 6 #[.int .i64 key, .slice p1 m1 c1, .slice p2 m2 c2, .slice p3 m3 c3, .agg #[.int .i64 e, .int .i64 s], .agg #[.int .i64 f, .int .i64 t]] w fun r w' => r = .returned (.bool true) ∧ Below w.heap.size w w' := by
  have V1 := Lib.hid ((Blk.new w #[.int .i64 e, .int .i64 s] 24).alloc (.cells #[.int .i64 f, .int .i64 t] 24))
  have U1 := Lib.hid (show Blk ((w.alloc (.cells #[.int .i64 e, .int .i64 s] 24)).alloc (.cells #[.int .i64 f, .int .i64 t] 24)) (w.heap.size + 1) #[.int .i64 f, .int .i64 t] 24 by have := Blk.new (w.alloc (.cells #[.int .i64 e, .int .i64 s] 24)) #[.int .i64 f, .int .i64 t] 24; simpa using this)
  have B1 := Lib.hid (show Below w.heap.size w ((w.alloc (.cells #[.int .i64 e, .int .i64 s] 24)).alloc (.cells #[.int .i64 f, .int .i64 t] 24)) from (bel_alloc1 w _).alloc (by simp) _)
  go_enter Tryd.func6, Tryd.ntmps6
  go_wp2_with (first
    | (go_at_call 11; refine (sane_any _ (Lib.hid (hk.out.below B1.out))).mono ?_; rintro r w1 ⟨rfl, hb⟩; have B2 := Lib.hid (bel_trans B1.out hb); have V2 := Lib.hid (V1.out.below hb V1.out.lt); have U2 := Lib.hid (U1.out.below hb U1.out.lt); clear hb; have q0 := V2.out.cell 0; have q1 := V2.out.cell 1; have d0 := U2.out.cell 0; have d1 := U2.out.cell 1)
    | (go_at_call 14; ((with_reducible refine (verify_is key e s p1 m1 c1 b1 w1 HT1 (Lib.hid (hz1.out.below B2.out)) (Lib.hid (hk.out.below B2.out)) false HV1).mono ?_); rintro r w2 ⟨rfl, hb⟩; have B3 := Lib.hid (bel_trans B2.out hb); have V3 := Lib.hid (V2.out.below hb V2.out.lt); have U3 := Lib.hid (U2.out.below hb U2.out.lt); clear hb; replace q0 := V3.out.cell 0; replace q1 := V3.out.cell 1; replace d0 := U3.out.cell 0; replace d1 := U3.out.cell 1)))
  go_ret
  exact ⟨rfl, B3.out⟩
set_option maxRecDepth 100000 in
set_option maxHeartbeats 4000000 in
theorem signTwice_e (key e s f t : Int) (p1 : Option Addr) (m1 c1 : Nat) (b1 : List Int) (p2 : Option Addr) (m2 c2 : Nat) (b2 : List Int) (p3 : Option Addr) (m3 c3 : Nat) (b3 : List Int) (w : World) (hz1 : Hid (SrcW w p1 m1 c1 b1)) (hz2 : Hid (SrcW w p2 m2 c2 b2)) (hz3 : Hid (SrcW w p3 m3 c3 b3)) (hk : Hid (KeysAt w)) (hm1 : m1 ≤ 600) (hm2 : m2 ≤ 600) (hm3 : m3 ≤ 600) (HT1 : Hid (txOk b1)) (HT2 : Hid (txOk b2)) (HT3 : Hid (txOk b3)) (HV1 : Hid (IsVer key b1 e s true)) (HV2 : Hid (IsVer key b2 f t false)) : Calls Tryd.prog 6 #[.int .i64 key, .slice p1 m1 c1, .slice p2 m2 c2, .slice p3 m3 c3, .agg #[.int .i64 e, .int .i64 s], .agg #[.int .i64 f, .int .i64 t]] w fun r w' => r = .returned (.bool true) ∧ Below w.heap.size w w' := by
  have V1 := Lib.hid ((Blk.new w #[.int .i64 e, .int .i64 s] 24).alloc (.cells #[.int .i64 f, .int .i64 t] 24))
  have U1 := Lib.hid (show Blk ((w.alloc (.cells #[.int .i64 e, .int .i64 s] 24)).alloc (.cells #[.int .i64 f, .int .i64 t] 24)) (w.heap.size + 1) #[.int .i64 f, .int .i64 t] 24 by have := Blk.new (w.alloc (.cells #[.int .i64 e, .int .i64 s] 24)) #[.int .i64 f, .int .i64 t] 24; simpa using this)
  have B1 := Lib.hid (show Below w.heap.size w ((w.alloc (.cells #[.int .i64 e, .int .i64 s] 24)).alloc (.cells #[.int .i64 f, .int .i64 t] 24)) from (bel_alloc1 w _).alloc (by simp) _)
  go_enter Tryd.func6, Tryd.ntmps6
  go_wp2_with (first
    | (go_at_call 11; refine (sane_any _ (Lib.hid (hk.out.below B1.out))).mono ?_; rintro r w1 ⟨rfl, hb⟩; have B2 := Lib.hid (bel_trans B1.out hb); have V2 := Lib.hid (V1.out.below hb V1.out.lt); have U2 := Lib.hid (U1.out.below hb U1.out.lt); clear hb; have q0 := V2.out.cell 0; have q1 := V2.out.cell 1; have d0 := U2.out.cell 0; have d1 := U2.out.cell 1)
    | (go_at_call 14; ((with_reducible refine (verify_is key e s p1 m1 c1 b1 w1 HT1 (Lib.hid (hz1.out.below B2.out)) (Lib.hid (hk.out.below B2.out)) true HV1).mono ?_); rintro r w2 ⟨rfl, hb⟩; have B3 := Lib.hid (bel_trans B2.out hb); have V3 := Lib.hid (V2.out.below hb V2.out.lt); have U3 := Lib.hid (U2.out.below hb U2.out.lt); clear hb; replace q0 := V3.out.cell 0; replace q1 := V3.out.cell 1; replace d0 := U3.out.cell 0; replace d1 := U3.out.cell 1))
    | (go_at_call 14; ((with_reducible refine (verify_is key f t p2 m2 c2 b2 w2 HT2 (Lib.hid (hz2.out.below B3.out)) (Lib.hid (hk.out.below B3.out)) false HV2).mono ?_); rintro r w3 ⟨rfl, hb⟩; have B4 := Lib.hid (bel_trans B3.out hb); have V4 := Lib.hid (V3.out.below hb V3.out.lt); have U4 := Lib.hid (U3.out.below hb U3.out.lt); clear hb; replace q0 := V4.out.cell 0; replace q1 := V4.out.cell 1; replace d0 := U4.out.cell 0; replace d1 := U4.out.cell 1)))
  go_ret
  exact ⟨rfl, B4.out⟩
set_option maxRecDepth 100000 in
set_option maxHeartbeats 4000000 in
theorem signTwice_f (key e s f t : Int) (p1 : Option Addr) (m1 c1 : Nat) (b1 : List Int) (p2 : Option Addr) (m2 c2 : Nat) (b2 : List Int) (p3 : Option Addr) (m3 c3 : Nat) (b3 : List Int) (w : World) (hz1 : Hid (SrcW w p1 m1 c1 b1)) (hz2 : Hid (SrcW w p2 m2 c2 b2)) (hz3 : Hid (SrcW w p3 m3 c3 b3)) (hk : Hid (KeysAt w)) (hm1 : m1 ≤ 600) (hm2 : m2 ≤ 600) (hm3 : m3 ≤ 600) (HT1 : Hid (txOk b1)) (HT2 : Hid (txOk b2)) (HT3 : Hid (txOk b3)) (HV1 : Hid (IsVer key b1 e s true)) (HV2 : Hid (IsVer key b2 f t true)) (hkey : Hid (elB key = true)) (e0 : 0 ≤ e) (e1 : e < 1073741789) (s0 : 0 ≤ s) (s1 : s < 1073741789) (f0 : 0 ≤ f) (f1 : f < 1073741789) (t0 : 0 ≤ t) (t1 : t < 1073741789) (x y : Int) (HX : Hid (IsPt key e s x)) (HY : Hid (IsPt key f t y)) (hxy : (x != y) = true) : Calls Tryd.prog 6 #[.int .i64 key, .slice p1 m1 c1, .slice p2 m2 c2, .slice p3 m3 c3, .agg #[.int .i64 e, .int .i64 s], .agg #[.int .i64 f, .int .i64 t]] w fun r w' => r = .returned (.bool true) ∧ Below w.heap.size w w' := by
  have V1 := Lib.hid ((Blk.new w #[.int .i64 e, .int .i64 s] 24).alloc (.cells #[.int .i64 f, .int .i64 t] 24))
  have U1 := Lib.hid (show Blk ((w.alloc (.cells #[.int .i64 e, .int .i64 s] 24)).alloc (.cells #[.int .i64 f, .int .i64 t] 24)) (w.heap.size + 1) #[.int .i64 f, .int .i64 t] 24 by have := Blk.new (w.alloc (.cells #[.int .i64 e, .int .i64 s] 24)) #[.int .i64 f, .int .i64 t] 24; simpa using this)
  have B1 := Lib.hid (show Below w.heap.size w ((w.alloc (.cells #[.int .i64 e, .int .i64 s] 24)).alloc (.cells #[.int .i64 f, .int .i64 t] 24)) from (bel_alloc1 w _).alloc (by simp) _)
  go_enter Tryd.func6, Tryd.ntmps6
  go_wp2_with (first
    | (go_at_call 11; refine (sane_any _ (Lib.hid (hk.out.below B1.out))).mono ?_; rintro r w1 ⟨rfl, hb⟩; have B2 := Lib.hid (bel_trans B1.out hb); have V2 := Lib.hid (V1.out.below hb V1.out.lt); have U2 := Lib.hid (U1.out.below hb U1.out.lt); clear hb; have q0 := V2.out.cell 0; have q1 := V2.out.cell 1; have d0 := U2.out.cell 0; have d1 := U2.out.cell 1)
    | (go_at_call 14; ((with_reducible refine (verify_is key e s p1 m1 c1 b1 w1 HT1 (Lib.hid (hz1.out.below B2.out)) (Lib.hid (hk.out.below B2.out)) true HV1).mono ?_); rintro r w2 ⟨rfl, hb⟩; have B3 := Lib.hid (bel_trans B2.out hb); have V3 := Lib.hid (V2.out.below hb V2.out.lt); have U3 := Lib.hid (U2.out.below hb U2.out.lt); clear hb; replace q0 := V3.out.cell 0; replace q1 := V3.out.cell 1; replace d0 := U3.out.cell 0; replace d1 := U3.out.cell 1))
    | (go_at_call 14; ((with_reducible refine (verify_is key f t p2 m2 c2 b2 w2 HT2 (Lib.hid (hz2.out.below B3.out)) (Lib.hid (hk.out.below B3.out)) true HV2).mono ?_); rintro r w3 ⟨rfl, hb⟩; have B4 := Lib.hid (bel_trans B3.out hb); have V4 := Lib.hid (V3.out.below hb V3.out.lt); have U4 := Lib.hid (U3.out.below hb U3.out.lt); clear hb; replace q0 := V4.out.cell 0; replace q1 := V4.out.cell 1; replace d0 := U4.out.cell 0; replace d1 := U4.out.cell 1))
    | (go_at_call 18; ((with_reducible refine (lpoint_is key e s x _ hkey e0 e1 HX).mono ?_); rintro r w4 ⟨rfl, hb⟩; have B5 := Lib.hid (bel_trans B4.out hb); have V5 := Lib.hid (V4.out.below hb V4.out.lt); have U5 := Lib.hid (U4.out.below hb U4.out.lt); clear hb; replace q0 := V5.out.cell 0; replace q1 := V5.out.cell 1; replace d0 := U5.out.cell 0; replace d1 := U5.out.cell 1))
    | (go_at_call 18; ((with_reducible refine (lpoint_is key f t y _ hkey f0 f1 HY).mono ?_); rintro r w5 ⟨rfl, hb⟩; have B6 := Lib.hid (bel_trans B5.out hb); have V6 := Lib.hid (V5.out.below hb V5.out.lt); have U6 := Lib.hid (U5.out.below hb U5.out.lt); clear hb; replace q0 := V6.out.cell 0; replace q1 := V6.out.cell 1; replace d0 := U6.out.cell 0; replace d1 := U6.out.cell 1))
    | (go_at_call 21; refine (rmod_any (e - f) _).mono ?_; rintro r w6 ⟨rfl, rfl⟩; skip))
  go_ret
  exact ⟨rfl, B6.out⟩
set_option maxRecDepth 100000 in
set_option maxHeartbeats 4000000 in
theorem signTwice_g (key e s f t : Int) (p1 : Option Addr) (m1 c1 : Nat) (b1 : List Int) (p2 : Option Addr) (m2 c2 : Nat) (b2 : List Int) (p3 : Option Addr) (m3 c3 : Nat) (b3 : List Int) (w : World) (hz1 : Hid (SrcW w p1 m1 c1 b1)) (hz2 : Hid (SrcW w p2 m2 c2 b2)) (hz3 : Hid (SrcW w p3 m3 c3 b3)) (hk : Hid (KeysAt w)) (hm1 : m1 ≤ 600) (hm2 : m2 ≤ 600) (hm3 : m3 ≤ 600) (HT1 : Hid (txOk b1)) (HT2 : Hid (txOk b2)) (HT3 : Hid (txOk b3)) (HV1 : Hid (IsVer key b1 e s true)) (HV2 : Hid (IsVer key b2 f t true)) (hkey : Hid (elB key = true)) (e0 : 0 ≤ e) (e1 : e < 1073741789) (s0 : 0 ≤ s) (s1 : s < 1073741789) (f0 : 0 ≤ f) (f1 : f < 1073741789) (t0 : 0 ≤ t) (t1 : t < 1073741789) (x y : Int) (HX : Hid (IsPt key e s x)) (HY : Hid (IsPt key f t y)) (hxy : (x != y) = false) (HM : Hid (modQ (e - f) = 0)) : Calls Tryd.prog 6 #[.int .i64 key, .slice p1 m1 c1, .slice p2 m2 c2, .slice p3 m3 c3, .agg #[.int .i64 e, .int .i64 s], .agg #[.int .i64 f, .int .i64 t]] w fun r w' => r = .returned (.bool true) ∧ Below w.heap.size w w' := by
  have V1 := Lib.hid ((Blk.new w #[.int .i64 e, .int .i64 s] 24).alloc (.cells #[.int .i64 f, .int .i64 t] 24))
  have U1 := Lib.hid (show Blk ((w.alloc (.cells #[.int .i64 e, .int .i64 s] 24)).alloc (.cells #[.int .i64 f, .int .i64 t] 24)) (w.heap.size + 1) #[.int .i64 f, .int .i64 t] 24 by have := Blk.new (w.alloc (.cells #[.int .i64 e, .int .i64 s] 24)) #[.int .i64 f, .int .i64 t] 24; simpa using this)
  have B1 := Lib.hid (show Below w.heap.size w ((w.alloc (.cells #[.int .i64 e, .int .i64 s] 24)).alloc (.cells #[.int .i64 f, .int .i64 t] 24)) from (bel_alloc1 w _).alloc (by simp) _)
  go_enter Tryd.func6, Tryd.ntmps6
  go_wp2_with (first
    | (go_at_call 11; refine (sane_any _ (Lib.hid (hk.out.below B1.out))).mono ?_; rintro r w1 ⟨rfl, hb⟩; have B2 := Lib.hid (bel_trans B1.out hb); have V2 := Lib.hid (V1.out.below hb V1.out.lt); have U2 := Lib.hid (U1.out.below hb U1.out.lt); clear hb; have q0 := V2.out.cell 0; have q1 := V2.out.cell 1; have d0 := U2.out.cell 0; have d1 := U2.out.cell 1)
    | (go_at_call 14; ((with_reducible refine (verify_is key e s p1 m1 c1 b1 w1 HT1 (Lib.hid (hz1.out.below B2.out)) (Lib.hid (hk.out.below B2.out)) true HV1).mono ?_); rintro r w2 ⟨rfl, hb⟩; have B3 := Lib.hid (bel_trans B2.out hb); have V3 := Lib.hid (V2.out.below hb V2.out.lt); have U3 := Lib.hid (U2.out.below hb U2.out.lt); clear hb; replace q0 := V3.out.cell 0; replace q1 := V3.out.cell 1; replace d0 := U3.out.cell 0; replace d1 := U3.out.cell 1))
    | (go_at_call 14; ((with_reducible refine (verify_is key f t p2 m2 c2 b2 w2 HT2 (Lib.hid (hz2.out.below B3.out)) (Lib.hid (hk.out.below B3.out)) true HV2).mono ?_); rintro r w3 ⟨rfl, hb⟩; have B4 := Lib.hid (bel_trans B3.out hb); have V4 := Lib.hid (V3.out.below hb V3.out.lt); have U4 := Lib.hid (U3.out.below hb U3.out.lt); clear hb; replace q0 := V4.out.cell 0; replace q1 := V4.out.cell 1; replace d0 := U4.out.cell 0; replace d1 := U4.out.cell 1))
    | (go_at_call 18; ((with_reducible refine (lpoint_is key e s x _ hkey e0 e1 HX).mono ?_); rintro r w4 ⟨rfl, hb⟩; have B5 := Lib.hid (bel_trans B4.out hb); have V5 := Lib.hid (V4.out.below hb V4.out.lt); have U5 := Lib.hid (U4.out.below hb U4.out.lt); clear hb; replace q0 := V5.out.cell 0; replace q1 := V5.out.cell 1; replace d0 := U5.out.cell 0; replace d1 := U5.out.cell 1))
    | (go_at_call 18; ((with_reducible refine (lpoint_is key f t y _ hkey f0 f1 HY).mono ?_); rintro r w5 ⟨rfl, hb⟩; have B6 := Lib.hid (bel_trans B5.out hb); have V6 := Lib.hid (V5.out.below hb V5.out.lt); have U6 := Lib.hid (U5.out.below hb U5.out.lt); clear hb; replace q0 := V6.out.cell 0; replace q1 := V6.out.cell 1; replace d0 := U6.out.cell 0; replace d1 := U6.out.cell 1))
    | (go_at_call 21; refine (rmod_any (e - f) _).mono ?_; rintro r w6 ⟨rfl, rfl⟩; rw [HM.out]))
  go_ret
  exact ⟨rfl, B6.out⟩
set_option maxRecDepth 100000 in
set_option maxHeartbeats 4000000 in
theorem signTwice_h (key e s f t : Int) (p1 : Option Addr) (m1 c1 : Nat) (b1 : List Int) (p2 : Option Addr) (m2 c2 : Nat) (b2 : List Int) (p3 : Option Addr) (m3 c3 : Nat) (b3 : List Int) (w : World) (hz1 : Hid (SrcW w p1 m1 c1 b1)) (hz2 : Hid (SrcW w p2 m2 c2 b2)) (hz3 : Hid (SrcW w p3 m3 c3 b3)) (hk : Hid (KeysAt w)) (hm1 : m1 ≤ 600) (hm2 : m2 ≤ 600) (hm3 : m3 ≤ 600) (HT1 : Hid (txOk b1)) (HT2 : Hid (txOk b2)) (HT3 : Hid (txOk b3)) (HV1 : Hid (IsVer key b1 e s true)) (HV2 : Hid (IsVer key b2 f t true)) (hkey : Hid (elB key = true)) (e0 : 0 ≤ e) (e1 : e < 1073741789) (s0 : 0 ≤ s) (s1 : s < 1073741789) (f0 : 0 ≤ f) (f1 : f < 1073741789) (t0 : 0 ≤ t) (t1 : t < 1073741789) (x y : Int) (HX : Hid (IsPt key e s x)) (HY : Hid (IsPt key f t y)) (hxy : (x != y) = false) (mm : Int) (HM : Hid (modQ (e - f) = mm)) (hmm : (mm == 0) = false) (HQ : Hid (IsQuo (s - t) (e - f) 0)) (HK4 : Hid (IsPw 4 0 key)) : Calls Tryd.prog 6 #[.int .i64 key, .slice p1 m1 c1, .slice p2 m2 c2, .slice p3 m3 c3, .agg #[.int .i64 e, .int .i64 s], .agg #[.int .i64 f, .int .i64 t]] w fun r w' => r = .returned (.bool true) ∧ Below w.heap.size w w' := by
  have V1 := Lib.hid ((Blk.new w #[.int .i64 e, .int .i64 s] 24).alloc (.cells #[.int .i64 f, .int .i64 t] 24))
  have U1 := Lib.hid (show Blk ((w.alloc (.cells #[.int .i64 e, .int .i64 s] 24)).alloc (.cells #[.int .i64 f, .int .i64 t] 24)) (w.heap.size + 1) #[.int .i64 f, .int .i64 t] 24 by have := Blk.new (w.alloc (.cells #[.int .i64 e, .int .i64 s] 24)) #[.int .i64 f, .int .i64 t] 24; simpa using this)
  have B1 := Lib.hid (show Below w.heap.size w ((w.alloc (.cells #[.int .i64 e, .int .i64 s] 24)).alloc (.cells #[.int .i64 f, .int .i64 t] 24)) from (bel_alloc1 w _).alloc (by simp) _)
  go_enter Tryd.func6, Tryd.ntmps6
  go_wp2_with (first
    | (go_at_call 11; refine (sane_any _ (Lib.hid (hk.out.below B1.out))).mono ?_; rintro r w1 ⟨rfl, hb⟩; have B2 := Lib.hid (bel_trans B1.out hb); have V2 := Lib.hid (V1.out.below hb V1.out.lt); have U2 := Lib.hid (U1.out.below hb U1.out.lt); clear hb; have q0 := V2.out.cell 0; have q1 := V2.out.cell 1; have d0 := U2.out.cell 0; have d1 := U2.out.cell 1)
    | (go_at_call 14; ((with_reducible refine (verify_is key e s p1 m1 c1 b1 w1 HT1 (Lib.hid (hz1.out.below B2.out)) (Lib.hid (hk.out.below B2.out)) true HV1).mono ?_); rintro r w2 ⟨rfl, hb⟩; have B3 := Lib.hid (bel_trans B2.out hb); have V3 := Lib.hid (V2.out.below hb V2.out.lt); have U3 := Lib.hid (U2.out.below hb U2.out.lt); clear hb; replace q0 := V3.out.cell 0; replace q1 := V3.out.cell 1; replace d0 := U3.out.cell 0; replace d1 := U3.out.cell 1))
    | (go_at_call 14; ((with_reducible refine (verify_is key f t p2 m2 c2 b2 w2 HT2 (Lib.hid (hz2.out.below B3.out)) (Lib.hid (hk.out.below B3.out)) true HV2).mono ?_); rintro r w3 ⟨rfl, hb⟩; have B4 := Lib.hid (bel_trans B3.out hb); have V4 := Lib.hid (V3.out.below hb V3.out.lt); have U4 := Lib.hid (U3.out.below hb U3.out.lt); clear hb; replace q0 := V4.out.cell 0; replace q1 := V4.out.cell 1; replace d0 := U4.out.cell 0; replace d1 := U4.out.cell 1))
    | (go_at_call 18; ((with_reducible refine (lpoint_is key e s x _ hkey e0 e1 HX).mono ?_); rintro r w4 ⟨rfl, hb⟩; have B5 := Lib.hid (bel_trans B4.out hb); have V5 := Lib.hid (V4.out.below hb V4.out.lt); have U5 := Lib.hid (U4.out.below hb U4.out.lt); clear hb; replace q0 := V5.out.cell 0; replace q1 := V5.out.cell 1; replace d0 := U5.out.cell 0; replace d1 := U5.out.cell 1))
    | (go_at_call 18; ((with_reducible refine (lpoint_is key f t y _ hkey f0 f1 HY).mono ?_); rintro r w5 ⟨rfl, hb⟩; have B6 := Lib.hid (bel_trans B5.out hb); have V6 := Lib.hid (V5.out.below hb V5.out.lt); have U6 := Lib.hid (U5.out.below hb U5.out.lt); clear hb; replace q0 := V6.out.cell 0; replace q1 := V6.out.cell 1; replace d0 := U6.out.cell 0; replace d1 := U6.out.cell 1))
    | (go_at_call 21; refine (rmod_any (e - f) _).mono ?_; rintro r w6 ⟨rfl, rfl⟩; rw [HM.out])
    | (go_at_call 22; refine (rquo_is (s - t) (e - f) 0 _ HQ).mono ?_; rintro r w7 ⟨rfl, rfl⟩)
    | (go_at_call 16; refine (pow_is 4 0 key _ HK4 (Lib.hid pe4)).mono ?_; rintro r w8 ⟨rfl, hb⟩; have B7 := Lib.hid (bel_trans B6.out hb); clear hb)
    | (go_at_call 12; refine (sign_no 0 p3 m3 c3 w8 (by omega)).mono ?_; rintro r w9 ⟨rfl, hb⟩; have B8 := Lib.hid (bel_trans B7.out hb); clear hb))
  go_ret
  exact ⟨rfl, B8.out.alloc B8.out.size _⟩
set_option maxRecDepth 100000 in
set_option maxHeartbeats 4000000 in
theorem signTwice_i (key e s f t : Int) (p1 : Option Addr) (m1 c1 : Nat) (b1 : List Int) (p2 : Option Addr) (m2 c2 : Nat) (b2 : List Int) (p3 : Option Addr) (m3 c3 : Nat) (b3 : List Int) (w : World) (hz1 : Hid (SrcW w p1 m1 c1 b1)) (hz2 : Hid (SrcW w p2 m2 c2 b2)) (hz3 : Hid (SrcW w p3 m3 c3 b3)) (hk : Hid (KeysAt w)) (hm1 : m1 ≤ 600) (hm2 : m2 ≤ 600) (hm3 : m3 ≤ 600) (HT1 : Hid (txOk b1)) (HT2 : Hid (txOk b2)) (HT3 : Hid (txOk b3)) (HV1 : Hid (IsVer key b1 e s true)) (HV2 : Hid (IsVer key b2 f t true)) (hkey : Hid (elB key = true)) (e0 : 0 ≤ e) (e1 : e < 1073741789) (s0 : 0 ≤ s) (s1 : s < 1073741789) (f0 : 0 ≤ f) (f1 : f < 1073741789) (t0 : 0 ≤ t) (t1 : t < 1073741789) (x y : Int) (HX : Hid (IsPt key e s x)) (HY : Hid (IsPt key f t y)) (hxy : (x != y) = false) (mm : Int) (HM : Hid (modQ (e - f) = mm)) (hmm : (mm == 0) = false) (sec : Int) (HQ : Hid (IsQuo (s - t) (e - f) sec)) (HK4 : Hid (IsPw 4 sec key)) (g0 : 1 ≤ sec) (g1 : sec < 1073741789) (hsec : (sec == 0) = false) (e3 s3 : Int) (HS3 : Hid (IsSig sec b3 e3 s3)) (HV3 : Hid (IsVer key b3 e3 s3 true)) : Calls Tryd.prog 6 #[.int .i64 key, .slice p1 m1 c1, .slice p2 m2 c2, .slice p3 m3 c3, .agg #[.int .i64 e, .int .i64 s], .agg #[.int .i64 f, .int .i64 t]] w fun r w' => r = .returned (.bool true) ∧ Below w.heap.size w w' := by
  have V1 := Lib.hid ((Blk.new w #[.int .i64 e, .int .i64 s] 24).alloc (.cells #[.int .i64 f, .int .i64 t] 24))
  have U1 := Lib.hid (show Blk ((w.alloc (.cells #[.int .i64 e, .int .i64 s] 24)).alloc (.cells #[.int .i64 f, .int .i64 t] 24)) (w.heap.size + 1) #[.int .i64 f, .int .i64 t] 24 by have := Blk.new (w.alloc (.cells #[.int .i64 e, .int .i64 s] 24)) #[.int .i64 f, .int .i64 t] 24; simpa using this)
  have B1 := Lib.hid (show Below w.heap.size w ((w.alloc (.cells #[.int .i64 e, .int .i64 s] 24)).alloc (.cells #[.int .i64 f, .int .i64 t] 24)) from (bel_alloc1 w _).alloc (by simp) _)
  go_enter Tryd.func6, Tryd.ntmps6
  go_wp2_with (first
    | (go_at_call 11; refine (sane_any _ (Lib.hid (hk.out.below B1.out))).mono ?_; rintro r w1 ⟨rfl, hb⟩; have B2 := Lib.hid (bel_trans B1.out hb); have V2 := Lib.hid (V1.out.below hb V1.out.lt); have U2 := Lib.hid (U1.out.below hb U1.out.lt); clear hb; have q0 := V2.out.cell 0; have q1 := V2.out.cell 1; have d0 := U2.out.cell 0; have d1 := U2.out.cell 1)
    | (go_at_call 14; ((with_reducible refine (verify_is key e s p1 m1 c1 b1 w1 HT1 (Lib.hid (hz1.out.below B2.out)) (Lib.hid (hk.out.below B2.out)) true HV1).mono ?_); rintro r w2 ⟨rfl, hb⟩; have B3 := Lib.hid (bel_trans B2.out hb); have V3 := Lib.hid (V2.out.below hb V2.out.lt); have U3 := Lib.hid (U2.out.below hb U2.out.lt); clear hb; replace q0 := V3.out.cell 0; replace q1 := V3.out.cell 1; replace d0 := U3.out.cell 0; replace d1 := U3.out.cell 1))
    | (go_at_call 14; ((with_reducible refine (verify_is key f t p2 m2 c2 b2 w2 HT2 (Lib.hid (hz2.out.below B3.out)) (Lib.hid (hk.out.below B3.out)) true HV2).mono ?_); rintro r w3 ⟨rfl, hb⟩; have B4 := Lib.hid (bel_trans B3.out hb); have V4 := Lib.hid (V3.out.below hb V3.out.lt); have U4 := Lib.hid (U3.out.below hb U3.out.lt); clear hb; replace q0 := V4.out.cell 0; replace q1 := V4.out.cell 1; replace d0 := U4.out.cell 0; replace d1 := U4.out.cell 1))
    | (go_at_call 18; ((with_reducible refine (lpoint_is key e s x _ hkey e0 e1 HX).mono ?_); rintro r w4 ⟨rfl, hb⟩; have B5 := Lib.hid (bel_trans B4.out hb); have V5 := Lib.hid (V4.out.below hb V4.out.lt); have U5 := Lib.hid (U4.out.below hb U4.out.lt); clear hb; replace q0 := V5.out.cell 0; replace q1 := V5.out.cell 1; replace d0 := U5.out.cell 0; replace d1 := U5.out.cell 1))
    | (go_at_call 18; ((with_reducible refine (lpoint_is key f t y _ hkey f0 f1 HY).mono ?_); rintro r w5 ⟨rfl, hb⟩; have B6 := Lib.hid (bel_trans B5.out hb); have V6 := Lib.hid (V5.out.below hb V5.out.lt); have U6 := Lib.hid (U5.out.below hb U5.out.lt); clear hb; replace q0 := V6.out.cell 0; replace q1 := V6.out.cell 1; replace d0 := U6.out.cell 0; replace d1 := U6.out.cell 1))
    | (go_at_call 21; refine (rmod_any (e - f) _).mono ?_; rintro r w6 ⟨rfl, rfl⟩; rw [HM.out])
    | (go_at_call 22; refine (rquo_is (s - t) (e - f) sec _ HQ).mono ?_; rintro r w7 ⟨rfl, rfl⟩)
    | (go_at_call 16; refine (pow_is 4 sec key _ HK4 (Lib.hid pe4)).mono ?_; rintro r w8 ⟨rfl, hb⟩; have B7 := Lib.hid (bel_trans B6.out hb); clear hb)
    | (go_at_call 12; refine (sign_yes sec p3 m3 c3 b3 w8 g0 g1 HT3 (Lib.hid (hz3.out.below B7.out)) (Lib.hid (hk.out.below B7.out)) e3 s3 HS3).mono ?_; rintro r w9 ⟨rfl, hb⟩; have B8 := Lib.hid (bel_trans B7.out hb); have A9 := Blk.new w9 #[.int .i64 e3, .int .i64 s3] 24; have a0 := A9.cell 0; have a1 := A9.cell 1; have B9 := Lib.hid (B8.out.alloc B8.out.size (.cells #[.int .i64 e3, .int .i64 s3] 24)); clear A9 hb)
    | (go_at_call 14; refine (verify_is key e3 s3 p3 m3 c3 b3 _ HT3 (Lib.hid (hz3.out.below B9.out)) (Lib.hid (hk.out.below B9.out)) true HV3).mono ?_; rintro r w10 ⟨rfl, hb⟩; have B10 := Lib.hid (bel_trans B9.out hb); clear hb))
  go_ret
  exact ⟨rfl, B10.out⟩
theorem signTwice_walk (key e s f t : Int) (p1 : Option Addr) (m1 c1 : Nat) (b1 : List Int) (p2 : Option Addr) (m2 c2 : Nat) (b2 : List Int) (p3 : Option Addr) (m3 c3 : Nat) (b3 : List Int) (w : World) (hz1 : Hid (SrcW w p1 m1 c1 b1)) (hz2 : Hid (SrcW w p2 m2 c2 b2)) (hz3 : Hid (SrcW w p3 m3 c3 b3)) (hk : Hid (KeysAt w)) (hr1 : ∀ z ∈ b1, 0 ≤ z ∧ z ≤ 255) (hr2 : ∀ z ∈ b2, 0 ≤ z ∧ z ≤ 255) (hr3 : ∀ z ∈ b3, 0 ≤ z ∧ z ≤ 255) : Calls Tryd.prog 6 #[.int .i64 key, .slice p1 m1 c1, .slice p2 m2 c2, .slice p3 m3 c3, .agg #[.int .i64 e, .int .i64 s], .agg #[.int .i64 f, .int .i64 t]] w fun r w' => r = .returned (.bool true) ∧ Below w.heap.size w w' := by
  have go : ∀ {P : Prop}, P → P := fun h => h
  by_cases hm1 : m1 ≤ 600
  case neg => exact signTwice_a key e s f t p1 m1 c1 b1 p2 m2 c2 b2 p3 m3 c3 b3 w hz1 hz2 hz3 hk hm1
  by_cases hm2 : m2 ≤ 600
  case neg => exact signTwice_b key e s f t p1 m1 c1 b1 p2 m2 c2 b2 p3 m3 c3 b3 w hz1 hz2 hz3 hk hm1 hm2
  by_cases hm3 : m3 ≤ 600
  case neg => exact signTwice_c key e s f t p1 m1 c1 b1 p2 m2 c2 b2 p3 m3 c3 b3 w hz1 hz2 hz3 hk hm1 hm2 hm3
  have HT1 := Lib.hid (tx_of hz1.out hr1 hm1)
  have HT2 := Lib.hid (tx_of hz2.out hr2 hm2)
  have HT3 := Lib.hid (tx_of hz3.out hr3 hm3)
  obtain ⟨v1, hv1⟩ := isVer key b1 e s
  obtain ⟨v2, hv2⟩ := isVer key b2 f t
  cases v1 with
  | false => exact signTwice_d key e s f t p1 m1 c1 b1 p2 m2 c2 b2 p3 m3 c3 b3 w hz1 hz2 hz3 hk hm1 hm2 hm3 HT1 HT2 HT3 (Lib.hid hv1)
  | true =>
    cases v2 with
    | false => exact signTwice_e key e s f t p1 m1 c1 b1 p2 m2 c2 b2 p3 m3 c3 b3 w hz1 hz2 hz3 hk hm1 hm2 hm3 HT1 HT2 HT3 (Lib.hid hv1) (Lib.hid hv2)
    | true =>
      obtain ⟨hkey, ⟨e0, e1⟩, ⟨s0, s1⟩, _⟩ := hv1.parts
      obtain ⟨_, ⟨f0, f1⟩, ⟨t0, t1⟩, _⟩ := hv2.parts
      obtain ⟨x, hx⟩ := isPt key e s
      obtain ⟨y, hy⟩ := isPt key f t
      by_cases hxy : x = y
      case neg => exact signTwice_f key e s f t p1 m1 c1 b1 p2 m2 c2 b2 p3 m3 c3 b3 w hz1 hz2 hz3 hk hm1 hm2 hm3 HT1 HT2 HT3 (Lib.hid hv1) (Lib.hid hv2) (Lib.hid hkey) e0 e1 s0 s1 f0 f1 t0 t1 x y (Lib.hid hx) (Lib.hid hy) (by simp [hxy])
      have hxy' : (x != y) = false := by simp [hxy]
      by_cases hmz : modQ (e - f) = 0
      · exact signTwice_g key e s f t p1 m1 c1 b1 p2 m2 c2 b2 p3 m3 c3 b3 w hz1 hz2 hz3 hk hm1 hm2 hm3 HT1 HT2 HT3 (Lib.hid hv1) (Lib.hid hv2) (Lib.hid hkey) e0 e1 s0 s1 f0 f1 t0 t1 x y (Lib.hid hx) (Lib.hid hy) hxy' (Lib.hid hmz)
      have hkq := twice hkey (by rw [hx.eq, hy.eq, hxy] : ptZ key e s = ptZ key f t) hmz
      obtain ⟨sec, hsec⟩ : ∃ r, IsQuo (s - t) (e - f) r := ⟨_, ⟨rfl⟩⟩
      rw [hsec.eq] at hkq
      have hsb : 0 ≤ sec ∧ sec < 1073741789 := by rw [← hsec.eq]; unfold quoQ; omega
      by_cases hz0 : sec = 0
      · exact signTwice_h key e s f t p1 m1 c1 b1 p2 m2 c2 b2 p3 m3 c3 b3 w hz1 hz2 hz3 hk hm1 hm2 hm3 HT1 HT2 HT3 (Lib.hid hv1) (Lib.hid hv2) (Lib.hid hkey) e0 e1 s0 s1 f0 f1 t0 t1 x y (Lib.hid hx) (Lib.hid hy) hxy' _ (Lib.hid rfl) (by simp [hmz]) (Lib.hid (by rw [hz0] at hsec; exact hsec)) (Lib.hid ⟨by rw [hz0] at hkq; exact hkq⟩)
      · obtain ⟨e3, s3, hs3⟩ := isSig sec b3
        have hv3 := hs3.ver
        rw [hkq] at hv3
        exact signTwice_i key e s f t p1 m1 c1 b1 p2 m2 c2 b2 p3 m3 c3 b3 w hz1 hz2 hz3 hk hm1 hm2 hm3 HT1 HT2 HT3 (Lib.hid hv1) (Lib.hid hv2) (Lib.hid hkey) e0 e1 s0 s1 f0 f1 t0 t1 x y (Lib.hid hx) (Lib.hid hy) hxy' _ (Lib.hid rfl) (by simp [hmz]) sec (Lib.hid hsec) (Lib.hid ⟨hkq⟩) (by omega) (by omega) (by simp [hz0]) e3 s3 (Lib.hid hs3) (Lib.hid hv3)

namespace signTwice
theorem readable : ∀ t ∈ Tryd.f6.params.toList, Tryd.prog.readableRec t = true ∧ t < Tryd.prog.types.size := by
  rw [Tryd.params6]
  intro t ht
  simp only [List.mem_cons, List.not_mem_nil, or_false] at ht
  rcases ht with rfl | rfl | rfl | rfl | rfl | rfl
  all_goals exact ⟨by kernel_rfl, by decide +kernel⟩

set_option maxRecDepth 100000 in
theorem lifted (os : Os) (started : os.Started) (H : Type) (enc : TypeId × Value → H) :
    ReturnsInHanded {} Tryd.checked os 6 .any (fun w args => (Rows.signTwiceSpec.pre enc Tryd.prog Tryd.f6 [] false w args ∧ laidMetH Tryd.prog laidK w) ∧ sizedMet enc Tryd.prog Tryd.f6 (OpenSpec.ofChange Rows.signTwiceSpec) false w args)
      (Rows.signTwiceSpec.post enc Tryd.prog Tryd.f6 false true false false) := by
  refine returnsInHanded_of_change_and (C := Tryd.checked) (X := fun w _ => laidMetH Tryd.prog laidK w) (fun _ _ _ hh h => h.of_heap hh) own_knob started (by kernel_rfl) Tryd.func6
    (ChangeSpec.witness_shaped (enc := enc) (C := Tryd.checked) (os := os) (X := fun w _ => laidMetH Tryd.prog laidK w) false (World.doorLaid Tryd.prog 400 os) #[.int .i64 0, .slice none 0 0, .slice none 0 0, .slice none 0 0, .agg #[.int .i64 0, .int .i64 0], .agg #[.int .i64 0, .int .i64 0]] 8 rfl (World.shaped_of_RefB (by kernel_rfl) (by kernel_rfl)) (by kernel_rfl) (by kernel_rfl) (by kernel_rfl) (door_met os _)) ?_
  intro W base args ds gs before hval0 hW _ _ hL _
  have hval : ∀ (j : Nat) t v, Tryd.f6.params[j]? = some t → args[j]? = some v → Value.okWide Tryd.prog W .any base t v := hval0
  have hW' := hW
  obtain ⟨p, q, hA0, hV, rfl, hfz, hnd⟩ := hW
  have hA : DataW.TrodAll enc Tryd.prog W 0 (fun _ => true) true Tryd.f6.params.toList args.toList ds p := hA0
  rw [Tryd.params6] at hA hval
  obtain ⟨v0, vs0, d0, ds0, p0, q0, hargs, rfl, rfl, h0, r0⟩ := trodAll_cons hA
  obtain ⟨v1, vs1, d1, ds1, p1, q1, rfl, rfl, rfl, h1, r1⟩ := trodAll_cons r0
  obtain ⟨v2, vs2, d2, ds2, p2, q2, rfl, rfl, rfl, h2, r2⟩ := trodAll_cons r1
  obtain ⟨v3, vs3, d3, ds3, p3, q3, rfl, rfl, rfl, h3, r3⟩ := trodAll_cons r2
  obtain ⟨v4, vs4, d4, ds4, p4, q4, rfl, rfl, rfl, h4, r4⟩ := trodAll_cons r3
  obtain ⟨v5, vs5, d5, ds5, p5, q5, rfl, rfl, rfl, h5, r5⟩ := trodAll_cons r4
  obtain ⟨rfl, rfl, rfl⟩ := trodAll_nil r5
  obtain rfl : args = #[v0, v1, v2, v3, v4, v5] := by cases args; simp_all
  obtain ⟨rfl, rfl⟩ := trodVars_none hV
  obtain ⟨a0, rfl, rfl, rfl, w0⟩ := open_int Tryd.underlying3 (hval 0 3 v0 rfl rfl) h0
  obtain ⟨s1, n1, c1, z1, rfl, w1, x1, y1, u1⟩ := open_src Tryd.underlying22 Tryd.underlying5 (by kernel_rfl) (hval 1 22 v1 rfl rfl) h1
  obtain ⟨s2, n2, c2, z2, rfl, w2, x2, y2, u2⟩ := open_src Tryd.underlying22 Tryd.underlying5 (by kernel_rfl) (hval 2 22 v2 rfl rfl) h2
  obtain ⟨s3, n3, c3, z3, rfl, w3, x3, y3, u3⟩ := open_src Tryd.underlying22 Tryd.underlying5 (by kernel_rfl) (hval 3 22 v3 rfl rfl) h3
  obtain ⟨e4, t4, rfl, w4, x4⟩ := open_sig (hval 4 24 v4 rfl rfl) h4
  obtain ⟨e5, t5, rfl, w5, x5⟩ := open_sig (hval 5 24 v5 rfl rfl) h5
  have hK := of_laid hL
  clear hA0 hval0
  refine (signTwice_walk a0 e4 t4 e5 t5 s1 n1 c1 z1 s2 n2 c2 z2 s3 n3 c3 z3 W (Lib.hid w1) (Lib.hid w2) (Lib.hid w3) (Lib.hid hK) x1 x2 x3).mono fun e W' ⟨he, hb⟩ => ?_
  subst he
  exact ⟨_, rfl, law_post laid_out readable rfl rfl Tryd.underlying4 hW' rfl rfl rfl hb⟩

theorem over : Rows.signTwiceRow.holds Tryd.pinned (OpenSpec.ofChange Rows.signTwiceSpec) :=
  OpenClaim.holds_of_wide 6 Tryd.f6 rfl rfl rfl rfl rfl rfl rfl ⟨rfl, rfl, rfl, rfl, rfl⟩ rfl rfl rfl rfl rfl (by kernel_rfl) Tryd.func6 (by kernel_rfl)
    (of_decide_eq_true (by kernel_rfl)) (by unfold Func.isWrapper; first | (rw [if_pos (by decide +kernel)]; kernel_rfl) | (rw [if_neg (by decide +kernel)]; exact ⟨rfl, rfl⟩))
    (fun os started H enc _ => lifted os started H enc)

/-- the statement: the tied card -/
theorem proved : Rows.SignTwiceCardSaid :=
  Claim7.holds_tied_plain_at .later [] [.data] true (true, "bc6094e853e3747432043714df9a4ae338abb82d89132539a305f2be281f9fc0") true
    over (fun _ h => by cases h) (by kernel_rfl) (fun _ h => by cases h) signTwice_row_tie rfl ⟨rfl, rfl⟩ (by kernel_rfl) rfl
    (fun f fn hf hfn => by
      obtain rfl : f = 6 := Option.some.inj ((show Tryd.prog.funcNamed "franking/frankinglaw11.SignTwice" = some 6 by kernel_rfl).symm.trans hf) |>.symm
      obtain rfl : fn = Tryd.f6 := (Option.some.inj (Tryd.func6.symm.trans hfn)).symm
      exact ⟨by kernel_rfl, fun j t ht => by
        rw [Tryd.params6] at ht
        have hm : t ∈ [3, 22, 22, 22, 24, 24] := by simpa using Array.mem_of_getElem? ht
        have hall : ([3, 22, 22, 22, 24, 24].all fun u => !Tryd.prog.wantsStandIn u) = true := by kernel_rfl
        exact (show Tryd.prog.wantsStandIn t = false by simpa using List.all_eq_true.1 hall t hm)⟩)
    (by kernel_rfl)
end signTwice
end Go.Proofs.YthhlpkppcbillaaDoor
