/- For all return addresses, words and tags, Use and Spend agree with the reference. No condition. -/
import Derived.Test.YtcedmiojmepioaaGreatDoorOntSan
import Derived.Test.YtcedmiojmepioaaGreatDoorOntRf3
import Derived.Test.YtcedmiojmepioaaGreatDoorOntOpn
import Derived.Test.YtcedmiojmepioaaGreatDoorLstZ
import Derived.Test.YtcedmiojmepioaaGreatDoorDigCard2
namespace Go.Proofs.YtcedmiojmepioaaGreatDoor
open Go.ChangeShapes Go.WideShapes Go.ChangeAt Go.RowKit Go.WideElems Go.Shelf
set_option linter.unusedVariables false
set_option linter.unusedSimpArgs false

theorem rc_two' {l k a b E : Int} {zs : List Int} (h : IsRC l k a b zs E) : (E = 160) ∨ (E = 0 ∧ partB l k a b = true) := by
  rcases h with ⟨_, rfl⟩ | ⟨hp, ds, hd, ⟨rfl, rfl⟩ | ⟨_, rfl⟩⟩
  · exact .inl rfl
  · exact .inr ⟨rfl, hp⟩
  · exact .inl rfl
theorem srcD_nil (w : World) : SrcD w none 0 0 [] := ⟨rfl, Nat.le_refl _, by decide, .inl ⟨rfl, fun _ => rfl⟩⟩
theorem srcD_own {w : World} {B : Nat} {v : Value} {n : Nat} {l : List (List Int)} (hd : Dgs l) (hn : l.length = n) (h : OwnR w B v n l.flatten) : ∃ p c, v = .slice p n c ∧ SrcD w p n c l.flatten := by
  subst hn
  obtain ⟨p, c, hv, hs⟩ := ownR_src hd h
  exact ⟨p, c, hv, hs.flat hd⟩
set_option maxRecDepth 100000 in
set_option maxHeartbeats 4000000 in
theorem useSpec_many (l k a b : Int) (zs : List Int) (p q r0 r1 r2 : Int) (us : List (List Int)) (sp : Option Addr) (n cap : Nat) (w : World) (hz : Hid (zs.length = 32)) (hr : Hid (∀ z ∈ zs, 0 ≤ z ∧ z ≤ 255)) (hd : Hid (Dgs us)) (hs : Hid (SrcL w sp n cap us)) (hk : Hid (KeysAt w)) (hpr : Hid (-9223372036854775808 ≤ p ∧ p ≤ 9223372036854775807)) (hqr : Hid (-9223372036854775808 ≤ q ∧ q ≤ 9223372036854775807)) (HF : decide (n ≤ 40) = false) :
    Calls Tryz.prog 4 #[.agg (rtv l k a b zs).toArray, .agg #[.int .i64 p, .int .i64 q], .agg #[.int .i64 r0, .int .i64 r1, .int .i64 r2], .slice sp n cap] w fun e w' => e = .returned (.bool true) ∧ Below w.heap.size w w' := by
  have X0 := Lib.hid (show RBlk (((w.alloc (.cells (rtv l k a b zs).toArray 27)).alloc (.cells #[.int .i64 p, .int .i64 q] 34)).alloc (.cells #[.int .i64 r0, .int .i64 r1, .int .i64 r2] 35)) w.heap.size l k a b zs from ((RBlk.box w l k a b hz.out).alloc _).alloc _)
  have P0 := Lib.hid (show Blk (((w.alloc (.cells (rtv l k a b zs).toArray 27)).alloc (.cells #[.int .i64 p, .int .i64 q] 34)).alloc (.cells #[.int .i64 r0, .int .i64 r1, .int .i64 r2] 35)) (w.heap.size + 1) #[.int .i64 p, .int .i64 q] 34 by
    have h := Blk.new (w.alloc (.cells (rtv l k a b zs).toArray 27)) #[.int .i64 p, .int .i64 q] 34
    simp only [World.size_alloc] at h
    exact h.alloc _)
  have Q0 := Lib.hid (show Blk (((w.alloc (.cells (rtv l k a b zs).toArray 27)).alloc (.cells #[.int .i64 p, .int .i64 q] 34)).alloc (.cells #[.int .i64 r0, .int .i64 r1, .int .i64 r2] 35)) (w.heap.size + 1 + 1) #[.int .i64 r0, .int .i64 r1, .int .i64 r2] 35 by
    have h := Blk.new ((w.alloc (.cells (rtv l k a b zs).toArray 27)).alloc (.cells #[.int .i64 p, .int .i64 q] 34)) #[.int .i64 r0, .int .i64 r1, .int .i64 r2] 35
    simp only [World.size_alloc] at h
    exact h)
  have B0 := Lib.hid (show Below w.heap.size w (((w.alloc (.cells (rtv l k a b zs).toArray 27)).alloc (.cells #[.int .i64 p, .int .i64 q] 34)).alloc (.cells #[.int .i64 r0, .int .i64 r1, .int .i64 r2] 35)) from ((bel_alloc1 w _).alloc (by simp) _).alloc (by simp; omega) _)
  go_enter Tryz.func4, Tryz.ntmps4
  go_upto_region 1 with fail
  generalize World.alloc (World.alloc (World.alloc w _) _) _ = W0 at X0 P0 Q0 B0 ⊢
  go_wp2_with (first
    | (go_at_call 7; refine (sane16_any _ (Lib.hid (hk.out.below B0.out))).mono ?_; rintro e w1 ⟨rfl, hb⟩; have B1 := Lib.hid (bel_trans B0.out hb); have X1 := Lib.hid (X0.out.bel hb); have P1 := Lib.hid (P0.out.below hb P0.out.lt); have Q1 := Lib.hid (Q0.out.below hb Q0.out.lt); have c0 := P1.out.cell 0; have c1 := P1.out.cell 1; have q0 := Q1.out.cell 0; have q1 := Q1.out.cell 1; have q2 := Q1.out.cell 2; clear hb)
    | (go_at_call 12; refine (rfew_is sp n cap false _ HF).mono ?_; rintro e w' ⟨rfl, rfl⟩))
  go_ret
  exact ⟨rfl, B1.out⟩
set_option maxRecDepth 100000 in
set_option maxHeartbeats 8000000 in
theorem useSpec_core (l k a b : Int) (zs : List Int) (p q r0 r1 r2 : Int) (us : List (List Int)) (sp : Option Addr) (n cap : Nat) (w : World) (hz : Hid (zs.length = 32)) (hr : Hid (∀ z ∈ zs, 0 ≤ z ∧ z ≤ 255)) (hd : Hid (Dgs us)) (hs : Hid (SrcL w sp n cap us)) (hk : Hid (KeysAt w)) (hpr : Hid (-9223372036854775808 ≤ p ∧ p ≤ 9223372036854775807)) (hqr : Hid (-9223372036854775808 ≤ q ∧ q ≤ 9223372036854775807)) (HF : decide (n ≤ 40) = true) (s0 s1 s2 s3 s4 s5 ue : Int) (HU : Hid (∀ g : World, Below w.heap.size w g → Calls Tryz.prog 13 #[.agg (rtv l k a b zs).toArray, .agg #[.int .i64 p, .int .i64 q], .agg #[.int .i64 r0, .int .i64 r1, .int .i64 r2]] g fun e w' => e = .returned (.tuple #[sealedV s0 s1 s2 s3 s4 s5, .int .i64 ue]) ∧ Below g.heap.size g w')) (HRU : Hid (∀ g : World, Below w.heap.size w g → Calls Tryz.prog 14 #[.agg (rtv l k a b zs).toArray, .agg #[.int .i64 p, .int .i64 q], .agg #[.int .i64 r0, .int .i64 r1, .int .i64 r2]] g fun e w' => e = .returned (.tuple #[sealedV s0 s1 s2 s3 s4 s5, .int .i64 ue]) ∧ Below g.heap.size g w')) (m : Nat) (er : Int) (fs : List Int) (hm : m ≤ 5000) (HA : Hid (∀ g : World, Below w.heap.size w g → Calls Tryz.prog 15 #[.slice sp n cap, .agg (rtv l k a b zs).toArray] g fun e w' => ∃ p1 c1, e = .returned (.tuple #[.slice p1 m c1, .int .i64 er]) ∧ SrcD w' p1 m c1 fs ∧ Below g.heap.size g w')) (HB : Hid (∀ g : World, Below w.heap.size w g → Calls Tryz.prog 16 #[.slice sp n cap, .agg (rtv l k a b zs).toArray] g fun e w' => ∃ p1 c1, e = .returned (.tuple #[.slice p1 m c1, .int .i64 er]) ∧ SrcD w' p1 m c1 fs ∧ Below g.heap.size g w')) :
    Calls Tryz.prog 4 #[.agg (rtv l k a b zs).toArray, .agg #[.int .i64 p, .int .i64 q], .agg #[.int .i64 r0, .int .i64 r1, .int .i64 r2], .slice sp n cap] w fun e w' => e = .returned (.bool true) ∧ Below w.heap.size w w' := by
  have X0 := Lib.hid (show RBlk (((w.alloc (.cells (rtv l k a b zs).toArray 27)).alloc (.cells #[.int .i64 p, .int .i64 q] 34)).alloc (.cells #[.int .i64 r0, .int .i64 r1, .int .i64 r2] 35)) w.heap.size l k a b zs from ((RBlk.box w l k a b hz.out).alloc _).alloc _)
  have P0 := Lib.hid (show Blk (((w.alloc (.cells (rtv l k a b zs).toArray 27)).alloc (.cells #[.int .i64 p, .int .i64 q] 34)).alloc (.cells #[.int .i64 r0, .int .i64 r1, .int .i64 r2] 35)) (w.heap.size + 1) #[.int .i64 p, .int .i64 q] 34 by
    have h := Blk.new (w.alloc (.cells (rtv l k a b zs).toArray 27)) #[.int .i64 p, .int .i64 q] 34
    simp only [World.size_alloc] at h
    exact h.alloc _)
  have Q0 := Lib.hid (show Blk (((w.alloc (.cells (rtv l k a b zs).toArray 27)).alloc (.cells #[.int .i64 p, .int .i64 q] 34)).alloc (.cells #[.int .i64 r0, .int .i64 r1, .int .i64 r2] 35)) (w.heap.size + 1 + 1) #[.int .i64 r0, .int .i64 r1, .int .i64 r2] 35 by
    have h := Blk.new ((w.alloc (.cells (rtv l k a b zs).toArray 27)).alloc (.cells #[.int .i64 p, .int .i64 q] 34)) #[.int .i64 r0, .int .i64 r1, .int .i64 r2] 35
    simp only [World.size_alloc] at h
    exact h)
  have B0 := Lib.hid (show Below w.heap.size w (((w.alloc (.cells (rtv l k a b zs).toArray 27)).alloc (.cells #[.int .i64 p, .int .i64 q] 34)).alloc (.cells #[.int .i64 r0, .int .i64 r1, .int .i64 r2] 35)) from ((bel_alloc1 w _).alloc (by simp) _).alloc (by simp; omega) _)
  go_enter Tryz.func4, Tryz.ntmps4
  go_upto_region 1 with fail
  generalize World.alloc (World.alloc (World.alloc w _) _) _ = W0 at X0 P0 Q0 B0 ⊢
  go_upto_region 6 with (first
    | (go_at_call 7; refine (sane16_any _ (Lib.hid (hk.out.below B0.out))).mono ?_; rintro e w1 ⟨rfl, hb⟩; have B1 := Lib.hid (bel_trans B0.out hb); have X1 := Lib.hid (X0.out.bel hb); have P1 := Lib.hid (P0.out.below hb P0.out.lt); have Q1 := Lib.hid (Q0.out.below hb Q0.out.lt); have c0 := P1.out.cell 0; have c1 := P1.out.cell 1; have q0 := Q1.out.cell 0; have q1 := Q1.out.cell 1; have q2 := Q1.out.cell 2; clear hb)
    | (go_at_call 12; refine (rfew_is sp n cap true _ HF).mono ?_; rintro e w' ⟨rfl, rfl⟩)
    | (refine list_loadR (by rfl) (.tmp 4) rfl w.heap.size rfl l k a b zs X1.out ?_)
    | (go_at_call 13; refine (HU.out _ B1.out).mono ?_; rintro e w2 ⟨rfl, hb⟩; have B2 := Lib.hid (bel_trans B1.out hb); have X2 := Lib.hid (X1.out.bel hb); have P2 := Lib.hid (P1.out.below hb P1.out.lt); have Q2 := Lib.hid (Q1.out.below hb Q1.out.lt); clear hb))
  clear c0 c1 q0 q1 q2
  have K3 := Lib.hid (bel_alloc1 w2 (.cells #[.int .i64 s0, .int .i64 s1, .int .i64 s2, .int .i64 s3, .int .i64 s4, .int .i64 s5] 39))
  have S3 := Lib.hid (Blk.new w2 #[.int .i64 s0, .int .i64 s1, .int .i64 s2, .int .i64 s3, .int .i64 s4, .int .i64 s5] 39)
  generalize World.alloc w2 _ = v3 at K3 S3 ⊢
  generalize w2.heap.size = sb at S3 ⊢
  have B3 := Lib.hid (bel_trans B2.out K3.out)
  have X3 := Lib.hid (X2.out.bel K3.out)
  have P3 := Lib.hid (P2.out.below K3.out P2.out.lt)
  have Q3 := Lib.hid (Q2.out.below K3.out Q2.out.lt)
  have c0 := P3.out.cell 0
  have c1 := P3.out.cell 1
  have q0 := Q3.out.cell 0
  have q1 := Q3.out.cell 1
  have q2 := Q3.out.cell 2
  go_upto_region 7 with (first
    | (refine list_loadR (by rfl) (.tmp 4) rfl w.heap.size rfl l k a b zs X3.out ?_)
    | (go_at_call 14; refine (HRU.out _ B3.out).mono ?_; rintro e w4 ⟨rfl, hb⟩; have B4 := Lib.hid (bel_trans B3.out hb); have X4 := Lib.hid (X3.out.bel hb); have P4 := Lib.hid (P3.out.below hb P3.out.lt); have Q4 := Lib.hid (Q3.out.below hb Q3.out.lt); have S4 := Lib.hid (S3.out.below hb S3.out.lt); clear hb))
  clear c0 c1 q0 q1 q2
  have K5 := Lib.hid (bel_alloc1 w4 (.cells #[.int .i64 s0, .int .i64 s1, .int .i64 s2, .int .i64 s3, .int .i64 s4, .int .i64 s5] 39))
  have T5 := Lib.hid (Blk.new w4 #[.int .i64 s0, .int .i64 s1, .int .i64 s2, .int .i64 s3, .int .i64 s4, .int .i64 s5] 39)
  generalize World.alloc w4 _ = v5 at K5 T5 ⊢
  generalize w4.heap.size = tb at T5 ⊢
  have B5 := Lib.hid (bel_trans B4.out K5.out)
  have X5 := Lib.hid (X4.out.bel K5.out)
  have P5 := Lib.hid (P4.out.below K5.out P4.out.lt)
  have Q5 := Lib.hid (Q4.out.below K5.out Q4.out.lt)
  have S5 := Lib.hid (S4.out.below K5.out S4.out.lt)
  clear P5 Q5 P4 Q4 P3 Q3 P2 Q2 P1 Q1
  go_upto_region 9 with (first
    | (refine list_loadR (by rfl) (.tmp 4) rfl w.heap.size rfl l k a b zs X5.out ?_)
    | (go_at_call 15; refine (HA.out _ B5.out).mono ?_; rintro e w6 ⟨p1, c1, rfl, hs1, hb⟩; have B6 := Lib.hid (bel_trans B5.out hb); have X6 := Lib.hid (X5.out.bel hb); have S6 := Lib.hid (S5.out.below hb S5.out.lt); have T6 := Lib.hid (T5.out.below hb T5.out.lt); have R6 := Lib.hid hs1; clear hb hs1)
    | (refine list_loadR (by rfl) (.tmp 4) rfl w.heap.size rfl l k a b zs X6.out ?_)
    | (go_at_call 16; refine (HB.out _ B6.out).mono ?_; rintro e w7 ⟨p2, c2, rfl, hs2, hb⟩; have B7 := Lib.hid (bel_trans B6.out hb); have S7 := Lib.hid (S6.out.below hb S6.out.lt); have T7 := Lib.hid (T6.out.below hb T6.out.lt); have R7 := Lib.hid (R6.out.below hb); have Q7 := Lib.hid hs2; clear hb hs2))
  have g0 := S7.out.cell 0
  have f0 := T7.out.cell 0
  have g1 := S7.out.cell 1
  have f1 := T7.out.cell 1
  have g2 := S7.out.cell 2
  have f2 := T7.out.cell 2
  have g3 := S7.out.cell 3
  have f3 := T7.out.cell 3
  have g4 := S7.out.cell 4
  have f4 := T7.out.cell 4
  have g5 := S7.out.cell 5
  have f5 := T7.out.cell 5
  go_wp2_with (go_at_call 17; refine (rsame_any p1 p2 m c1 c2 fs _ R7 Q7 (by omega)).mono ?_; rintro e w8 ⟨rfl, hb⟩; have B8 := Lib.hid (bel_trans B7.out hb); clear hb)
  go_ret
  exact ⟨rfl, B8.out⟩
theorem use_both (l k a b : Int) (zs : List Int) (p q r0 r1 r2 : Int) (us : List (List Int)) (sp : Option Addr) (n cap : Nat) (w : World) (hz : Hid (zs.length = 32)) (hr : Hid (∀ z ∈ zs, 0 ≤ z ∧ z ≤ 255)) (hd : Hid (Dgs us)) (hs : Hid (SrcL w sp n cap us)) (hk : Hid (KeysAt w)) (hpr : Hid (-9223372036854775808 ≤ p ∧ p ≤ 9223372036854775807)) (hqr : Hid (-9223372036854775808 ≤ q ∧ q ≤ 9223372036854775807)) (E : Int) (HE : Hid (IsRC l k a b zs E)) : ∃ s0 s1 s2 s3 s4 s5 ue, (Hid (∀ g : World, Below w.heap.size w g → Calls Tryz.prog 13 #[.agg (rtv l k a b zs).toArray, .agg #[.int .i64 p, .int .i64 q], .agg #[.int .i64 r0, .int .i64 r1, .int .i64 r2]] g fun e w' => e = .returned (.tuple #[sealedV s0 s1 s2 s3 s4 s5, .int .i64 ue]) ∧ Below g.heap.size g w')) ∧ (Hid (∀ g : World, Below w.heap.size w g → Calls Tryz.prog 14 #[.agg (rtv l k a b zs).toArray, .agg #[.int .i64 p, .int .i64 q], .agg #[.int .i64 r0, .int .i64 r1, .int .i64 r2]] g fun e w' => e = .returned (.tuple #[sealedV s0 s1 s2 s3 s4 s5, .int .i64 ue]) ∧ Below g.heap.size g w')) := by
  rcases rc_two' HE.out with rfl | ⟨rfl, hp⟩
  · exact ⟨0, 0, 0, 0, 0, 0, 160, Lib.hid fun u hu => ouse_ret l k a b zs p q r0 r1 r2 u hz (Lib.hid (hk.out.below hu)) HE, Lib.hid fun u hu => ruse_ret l k a b zs p q r0 r1 r2 u hz HE⟩
  obtain ⟨_, hke, hea, heb⟩ := partB_iff.1 hp
  cases h1 : wordB p with
  | false =>
    have H1 := Lib.hid h1
    exact ⟨0, 0, 0, 0, 0, 0, 100, Lib.hid fun u hu => ouse_w0 l k a b zs p q r0 r1 r2 u hz (Lib.hid (hk.out.below hu)) HE H1, Lib.hid fun u hu => ruse_w0 l k a b zs p q r0 r1 r2 u hz HE hpr hqr H1⟩
  | true =>
    have H1 := Lib.hid h1
    cases h2 : wordB q with
    | false =>
      have H2 := Lib.hid h2
      exact ⟨0, 0, 0, 0, 0, 0, 100, Lib.hid fun u hu => ouse_w1 l k a b zs p q r0 r1 r2 u hz (Lib.hid (hk.out.below hu)) HE H1 H2, Lib.hid fun u hu => ruse_w1 l k a b zs p q r0 r1 r2 u hz HE hpr hqr H1 H2⟩
    | true =>
      have H2 := Lib.hid h2
      obtain ⟨a0, b0, c0⟩ := isCip k 1 r0
      obtain ⟨a1, b1, c1⟩ := isCip k (elmZ p) r1
      obtain ⟨a2, b2, c2⟩ := isCip k (elmZ q) r2
      have C0 := Lib.hid (show IsCip k (elmZ 1) r0 a0 b0 by rw [elm_1]; exact c0)
      exact ⟨_, _, a1, b1, a2, b2, 0, Lib.hid fun u hu => ouse_ok l k a b zs p q r0 r1 r2 u hz (Lib.hid (hk.out.below hu)) HE H1 H2 (Lib.hid hke) (Lib.hid ⟨by decide, h1, h2⟩) a0 b0 a1 b1 a2 b2 _ _ C0 (Lib.hid c1) (Lib.hid c2) (Lib.hid rfl) (Lib.hid rfl), Lib.hid fun u hu => ruse_ok l k a b zs p q r0 r1 r2 u hz HE hpr hqr H1 H2 a0 b0 a1 b1 a2 b2 _ _ (Lib.hid c0) (Lib.hid c1) (Lib.hid c2) (Lib.hid rfl) (Lib.hid rfl)⟩
theorem spend_both (l k a b : Int) (zs : List Int) (p q r0 r1 r2 : Int) (us : List (List Int)) (sp : Option Addr) (n cap : Nat) (w : World) (hz : Hid (zs.length = 32)) (hr : Hid (∀ z ∈ zs, 0 ≤ z ∧ z ≤ 255)) (hd : Hid (Dgs us)) (hs : Hid (SrcL w sp n cap us)) (hk : Hid (KeysAt w)) (hpr : Hid (-9223372036854775808 ≤ p ∧ p ≤ 9223372036854775807)) (hqr : Hid (-9223372036854775808 ≤ q ∧ q ≤ 9223372036854775807)) (E : Int) (HE : Hid (IsRC l k a b zs E)) (hn2 : n ≤ 4000) : ∃ (m : Nat) (er : Int) (fs : List Int), m ≤ 5000 ∧ (Hid (∀ g : World, Below w.heap.size w g → Calls Tryz.prog 15 #[.slice sp n cap, .agg (rtv l k a b zs).toArray] g fun e w' => ∃ p1 c1, e = .returned (.tuple #[.slice p1 m c1, .int .i64 er]) ∧ SrcD w' p1 m c1 fs ∧ Below g.heap.size g w')) ∧ (Hid (∀ g : World, Below w.heap.size w g → Calls Tryz.prog 16 #[.slice sp n cap, .agg (rtv l k a b zs).toArray] g fun e w' => ∃ p1 c1, e = .returned (.tuple #[.slice p1 m c1, .int .i64 er]) ∧ SrcD w' p1 m c1 fs ∧ Below g.heap.size g w')) := by
  have nil : ∀ (er : Int) {f : FuncId} {g : World}, (Calls Tryz.prog f #[.slice sp n cap, .agg (rtv l k a b zs).toArray] g fun e w' => e = .returned (.tuple #[.slice none 0 0, .int .i64 er]) ∧ Below g.heap.size g w') → Calls Tryz.prog f #[.slice sp n cap, .agg (rtv l k a b zs).toArray] g fun e w' => ∃ p1 c1, e = .returned (.tuple #[.slice p1 (0 : Nat) c1, .int .i64 er]) ∧ SrcD w' p1 0 c1 [] ∧ Below g.heap.size g w' :=
    fun er _ _ h => h.mono fun e w' he => ⟨none, 0, he.1, srcD_nil w', he.2⟩
  rcases rc_two' HE.out with rfl | ⟨rfl, hp⟩
  · exact ⟨0, 160, [], by omega, Lib.hid fun u hu => nil 160 (ospend_ret l k a b zs us sp n cap u hz hr hd (Lib.hid (hs.out.below hu)) hn2 (Lib.hid (hk.out.below hu)) HE), Lib.hid fun u hu => nil 160 (rspend_ret l k a b zs us sp n cap u hz hd (Lib.hid (hs.out.below hu)) hn2 HE)⟩
  by_cases ha : adjOK us
  case neg =>
    have HN := Lib.hid ha
    exact ⟨0, 160, [], by omega, Lib.hid fun u hu => nil 160 (ospend_uns l k a b zs us sp n cap u hz hr hd (Lib.hid (hs.out.below hu)) hn2 (Lib.hid (hk.out.below hu)) HE HN), Lib.hid fun u hu => nil 160 (rspend_uns l k a b zs us sp n cap u hz hd (Lib.hid (hs.out.below hu)) hn2 HE HN)⟩
  have HAD := Lib.hid ha
  obtain ⟨i, hi⟩ := isPos_ex ha zs
  have HI := Lib.hid hi
  cases hf : hasD us zs with
  | true =>
    have HFD := Lib.hid hf
    exact ⟨0, 161, [], by omega, Lib.hid fun u hu => nil 161 (ospend_found l k a b zs us sp n cap u hz hr hd (Lib.hid (hs.out.below hu)) hn2 (Lib.hid (hk.out.below hu)) HE HAD i HI HFD), Lib.hid fun u hu => nil 161 (rspend_found l k a b zs us sp n cap u hz hd (Lib.hid (hs.out.below hu)) hn2 HE HAD HFD)⟩
  | false =>
    have HFD := Lib.hid hf
    have hdp : Dgs (putD us zs i) := hd.out.put hz.out hr.out i
    have hpl : (putD us zs i).length = n + 1 := by rw [putD_len us zs i hi.1, hs.out.1]
    have own : ∀ {f : FuncId} {g : World}, (Calls Tryz.prog f #[.slice sp n cap, .agg (rtv l k a b zs).toArray] g fun e w' => ∃ v', e = .returned (.tuple #[v', .int .i64 0]) ∧ OwnR w' g.heap.size v' (n + 1) (putD us zs i).flatten ∧ Below g.heap.size g w') → Calls Tryz.prog f #[.slice sp n cap, .agg (rtv l k a b zs).toArray] g fun e w' => ∃ p1 c1, e = .returned (.tuple #[.slice p1 (n + 1 : Nat) c1, .int .i64 0]) ∧ SrcD w' p1 (n + 1) c1 (putD us zs i).flatten ∧ Below g.heap.size g w' :=
      fun h => h.mono fun e w' ⟨v', he, ho, hb⟩ => by
        obtain ⟨p1, c1, rfl, hsd⟩ := srcD_own hdp hpl ho
        exact ⟨p1, c1, he, hsd, hb⟩
    exact ⟨n + 1, 0, (putD us zs i).flatten, by omega, Lib.hid fun u hu => own (ospend_ok l k a b zs us sp n cap u hz hr hd (Lib.hid (hs.out.below hu)) hn2 (Lib.hid (hk.out.below hu)) HE HAD i HI HFD), Lib.hid fun u hu => own (rspend_ok l k a b zs us sp n cap u hz hd (Lib.hid (hs.out.below hu)) hn2 HE HAD i HI HFD)⟩
theorem useSpec_walk (l k a b : Int) (zs : List Int) (p q r0 r1 r2 : Int) (us : List (List Int)) (sp : Option Addr) (n cap : Nat) (w : World) (hz : Hid (zs.length = 32)) (hr : Hid (∀ z ∈ zs, 0 ≤ z ∧ z ≤ 255)) (hd : Hid (Dgs us)) (hs : Hid (SrcL w sp n cap us)) (hk : Hid (KeysAt w)) (hpr : Hid (-9223372036854775808 ≤ p ∧ p ≤ 9223372036854775807)) (hqr : Hid (-9223372036854775808 ≤ q ∧ q ≤ 9223372036854775807)) :
    Calls Tryz.prog 4 #[.agg (rtv l k a b zs).toArray, .agg #[.int .i64 p, .int .i64 q], .agg #[.int .i64 r0, .int .i64 r1, .int .i64 r2], .slice sp n cap] w fun e w' => e = .returned (.bool true) ∧ Below w.heap.size w w' := by
  by_cases h40 : n ≤ 40
  case neg => exact useSpec_many l k a b zs p q r0 r1 r2 us sp n cap w hz hr hd hs hk hpr hqr (decide_eq_false h40)
  obtain ⟨E, he⟩ := isRC l k a b zs
  have HE := Lib.hid he
  obtain ⟨s0, s1, s2, s3, s4, s5, ue, h1, h2⟩ := use_both l k a b zs p q r0 r1 r2 us sp n cap w hz hr hd hs hk hpr hqr E HE
  obtain ⟨m, er, fs, hm, h3, h4⟩ := spend_both l k a b zs p q r0 r1 r2 us sp n cap w hz hr hd hs hk hpr hqr E HE (by omega)
  exact useSpec_core l k a b zs p q r0 r1 r2 us sp n cap w hz hr hd hs hk hpr hqr (decide_eq_true h40) s0 s1 s2 s3 s4 s5 ue h1 h2 m er fs hm h3 h4

namespace onetimeUseSpec
theorem readable : ∀ t ∈ Tryz.f4.params.toList, Tryz.prog.readableRec t = true ∧ t < Tryz.prog.types.size := by
  rw [Tryz.params4]
  intro t ht
  simp only [List.mem_cons, List.not_mem_nil, or_false] at ht
  rcases ht with rfl | rfl | rfl | rfl
  all_goals exact ⟨by kernel_rfl, by decide +kernel⟩

set_option maxRecDepth 100000 in
theorem lifted (os : Os) (started : os.Started) (H : Type) (enc : TypeId × Value → H) :
    ReturnsInHanded {} Tryz.checked os 4 .any (fun w args => (Rows.onetimeUseSpecSpec.pre enc Tryz.prog Tryz.f4 [] false w args ∧ laidMetH Tryz.prog laidK w) ∧ sizedMet enc Tryz.prog Tryz.f4 (OpenSpec.ofChange Rows.onetimeUseSpecSpec) false w args)
      (Rows.onetimeUseSpecSpec.post enc Tryz.prog Tryz.f4 false true false false) := by
  refine returnsInHanded_of_change_and (C := Tryz.checked) (X := fun w _ => laidMetH Tryz.prog laidK w) (fun _ _ _ hh h => h.of_heap hh) own_knob started (by kernel_rfl) Tryz.func4
    (ChangeSpec.witness_shaped (enc := enc) (C := Tryz.checked) (os := os) (X := fun w _ => laidMetH Tryz.prog laidK w) false (World.doorLaid Tryz.prog 400 os) #[.agg (rtv 0 0 0 0 (List.replicate 32 0)).toArray, .agg #[.int .i64 0, .int .i64 0], .agg #[.int .i64 0, .int .i64 0, .int .i64 0], .slice none 0 0] 8 rfl (World.shaped_of_RefB (by kernel_rfl) (by kernel_rfl)) (by kernel_rfl) (by kernel_rfl) (by kernel_rfl) (door_met os _)) ?_
  intro W base args ds gs before hval0 hW _ _ hL _
  have hval : ∀ (j : Nat) t v, Tryz.f4.params[j]? = some t → args[j]? = some v → Value.okWide Tryz.prog W .any base t v := hval0
  have hW' := hW
  obtain ⟨p, q, hA0, hV, rfl, hfz, hnd⟩ := hW
  have hA : DataW.TrodAll enc Tryz.prog W 0 (fun _ => true) true Tryz.f4.params.toList args.toList ds p := hA0
  rw [Tryz.params4] at hA hval
  obtain ⟨v0, vs0, d0, ds0, p0, q0, hargs, rfl, rfl, h0, r0⟩ := trodAll_cons hA
  obtain ⟨v1, vs1, d1, ds1, p1, q1, rfl, rfl, rfl, h1, r1⟩ := trodAll_cons r0
  obtain ⟨v2, vs2, d2, ds2, p2, q2, rfl, rfl, rfl, h2, r2⟩ := trodAll_cons r1
  obtain ⟨v3, vs3, d3, ds3, p3, q3, rfl, rfl, rfl, h3, r3⟩ := trodAll_cons r2
  obtain ⟨rfl, rfl, rfl⟩ := trodAll_nil r3
  obtain rfl : args = #[v0, v1, v2, v3] := by cases args; simp_all
  obtain ⟨rfl, rfl⟩ := trodVars_none hV
  obtain ⟨l0, k0, a0, b0, z0, rfl, w0, x0⟩ := open_ret (hval 0 27 v0 rfl rfl) h0
  obtain ⟨a1, b1, rfl, w1, x1⟩ := open_arr2 Tryz.underlying34 Tryz.underlying3 (by kernel_rfl) (by kernel_rfl) (hval 1 34 v1 rfl rfl) h1
  obtain ⟨a2, b2, c2, rfl, w2, x2, y2⟩ := open_arr3 Tryz.underlying35 Tryz.underlying3 (by kernel_rfl) (by kernel_rfl) (hval 2 35 v2 rfl rfl) h2
  obtain ⟨s3, n3, c3, l3, rfl, w3, x3⟩ := open_digs (hval 3 36 v3 rfl rfl) h3
  have hK := of_laid hL
  clear hA0 hval0
  refine (useSpec_walk l0 k0 a0 b0 z0 a1 b1 a2 b2 c2 l3 s3 n3 c3 W (Lib.hid w0) (Lib.hid x0) (Lib.hid x3) (Lib.hid w3) (Lib.hid hK) (Lib.hid (bounds_i64 w1)) (Lib.hid (bounds_i64 x1))).mono fun e W' ⟨he, hb⟩ => ?_
  subst he
  exact ⟨_, rfl, law_post laid_out readable rfl rfl Tryz.underlying4 hW' rfl rfl rfl hb⟩

theorem over : Rows.onetimeUseSpecRow.holds Tryz.pinned (OpenSpec.ofChange Rows.onetimeUseSpecSpec) :=
  OpenClaim.holds_of_wide 4 Tryz.f4 rfl rfl rfl rfl rfl rfl rfl ⟨rfl, rfl, rfl, rfl, rfl⟩ rfl rfl rfl rfl rfl (by kernel_rfl) Tryz.func4 (by kernel_rfl)
    (of_decide_eq_true (by kernel_rfl)) (by unfold Func.isWrapper; first | (rw [if_pos (by decide +kernel)]; kernel_rfl) | (rw [if_neg (by decide +kernel)]; exact ⟨rfl, rfl⟩))
    (fun os started H enc _ => lifted os started H enc)

/-- the statement: the tied card -/
theorem proved : Rows.OnetimeUseSpecCardSaid :=
  Claim7.holds_tied_plain_at .later [] [.data] true (true, "2945dd45cb54298148d20fc3ddd31a466de9b69a6089ff3bdcb76d6b52769d97") false
    over (fun _ h => by cases h) (by kernel_rfl) (fun _ h => by cases h) onetimeUseSpec_row_tie rfl ⟨rfl, rfl⟩ (by kernel_rfl) rfl
    (fun f fn hf hfn => by
      obtain rfl : f = 4 := Option.some.inj ((show Tryz.prog.funcNamed "franking/frankinglaw16.OnetimeUseSpec" = some 4 by kernel_rfl).symm.trans hf) |>.symm
      obtain rfl : fn = Tryz.f4 := (Option.some.inj (Tryz.func4.symm.trans hfn)).symm
      exact ⟨by kernel_rfl, fun j t ht => by
        rw [Tryz.params4] at ht
        have hm : t ∈ [27, 34, 35, 36] := by simpa using Array.mem_of_getElem? ht
        have hall : ([27, 34, 35, 36].all fun u => !Tryz.prog.wantsStandIn u) = true := by kernel_rfl
        exact (show Tryz.prog.wantsStandIn t = false by simpa using List.all_eq_true.1 hall t hm)⟩)
    (by kernel_rfl)
end onetimeUseSpec
end Go.Proofs.YtcedmiojmepioaaGreatDoor
