/- Receipts: the law's checks of known letters. -/
import Derived.Test.YtpjobllfiimdkaaDoorRecZA
import Derived.Test.YtpjobllfiimdkaaDoorOntEq
import Derived.Test.YtpjobllfiimdkaaDoorElgZE
namespace Go.Proofs.YtpjobllfiimdkaaDoor
open Go.RowKit
set_option linter.unusedVariables false
set_option linter.unusedSimpArgs false

theorem elm_1 : elmZ 1 = 1 := by unfold elmZ; rw [if_pos (by decide), if_pos elB_one]
theorem elB_16 : elB 16 = true := elB_sq (n := 4) (by omega) (by omega)
theorem elB_64 : elB 64 = true := elB_sq (n := 8) (by omega) (by omega)
theorem k_pow3 : powZ 4 3 = 64 := by
  have h := powZ_add elB_4 2 1
  rw [c_pow1, powZ_one elB_4, mulZ_eq elB_16 elB_4] at h
  exact h.symm
theorem k_pow5 : powZ 4 5 = 1024 := by
  have h := powZ_add elB_4 3 2
  rw [c_pow1, k_pow3, mulZ_eq elB_64 elB_16] at h
  exact h.symm
theorem cip_el {key e r a b : Int} (hk : elB key = true) (he : elB e = true) (h : IsCip key e r a b) : elB a = true ∧ elB b = true := by
  rw [← h.ha, ← h.hb]; exact ⟨powZ_el elB_4 _, mulZ_el he (powZ_el hk _)⟩
theorem strip_alg {e : Int} (he : elB e = true) (t u s : Int) : mulZ (mulZ e (powZ 4 u)) (powZ (powZ 4 t) (-s)) = mulZ e (powZ 4 (u + t * (-s))) := by
  rw [powZ_mul elB_4, mulZ_assoc he (powZ_el elB_4 _) (powZ_el elB_4 _), powZ_add elB_4]
theorem sealed_cip {key e r m xa xb a b : Int} (hk : elB key = true) (he : elB e = true) (h : IsCip key e r xa xb) (h0 : IsCip key (elmZ 1) m a b) : IsCip key e (r + m) (mulZ xa a) (mulZ xb b) := by
  have e1 : elmZ 1 = 1 := elm_1
  refine ⟨by rw [← h.ha, ← h0.ha, powZ_add elB_4], ?_⟩
  rw [← h.hb, ← h0.hb, e1, mulZ_one (powZ_el hk m), mulZ_assoc he (powZ_el hk r) (powZ_el hk m), powZ_add hk]
set_option maxHeartbeats 1000000 in
theorem strip_is (s a0 b0 a1 b1 a2 b2 c0 c1 c2 : Int) (w : World) (hs : Hid (secB s = true)) (hc : Hid (chkE a0 b0 a1 b1 a2 b2 = 0)) (h0 : Hid (mulZ b0 (powZ a0 (-s)) = c0)) (h1 : Hid (mulZ b1 (powZ a1 (-s)) = c1)) (h2 : Hid (mulZ b2 (powZ a2 (-s)) = c2)) :
    Calls Tryd.prog 11 #[.int .i64 s, sealedV a0 b0 a1 b1 a2 b2] w fun e w' => e = .returned (.tuple #[sealedV a0 c0 a1 c1 a2 c2, .int .i64 0]) ∧ Below w.heap.size w w' := by
  have := strip_any s ((a0, b0), (a1, b1), (a2, b2)) w
  have e1 : stripR s ((a0, b0), (a1, b1), (a2, b2)) = ((a0, c0), (a1, c1), (a2, c2)) := by
    unfold stripR
    rw [if_pos hs.out, if_pos hc.out, ← h0.out, ← h1.out, ← h2.out]
    rfl
  have e2 : stripE s ((a0, b0), (a1, b1), (a2, b2)) = 0 := by unfold stripE; rw [if_pos hs.out]; exact hc.out
  rw [e1, e2] at this
  exact this
set_option maxHeartbeats 1000000 in
theorem read_is (a0 b0 a1 b1 a2 b2 n0 n1 n2 : Int) (w : World) (hc : Hid (chkE a0 b0 a1 b1 a2 b2 = 0)) (h0 : Hid (numZ b0 = n0)) (h1 : Hid (numZ b1 = n1)) (h2 : Hid (numZ b2 = n2)) :
    Calls Tryd.prog 12 #[sealedV a0 b0 a1 b1 a2 b2] w fun e w' => e = .returned (.tuple #[.agg #[.int .i64 n0, .int .i64 n1, .int .i64 n2], .int .i64 0]) ∧ Below w.heap.size w w' := by
  have := read_any ((a0, b0), (a1, b1), (a2, b2)) w
  have e2 : readE ((a0, b0), (a1, b1), (a2, b2)) = 0 := hc.out
  have e1 : readR ((a0, b0), (a1, b1), (a2, b2)) = (n0, n1, n2) := by
    unfold readR; rw [if_pos e2, ← h0.out, ← h1.out, ← h2.out]
  rw [e1, e2] at this
  exact this
theorem strip_one {s key e t a b : Int} (hk : key = powZ 4 s) (he : elB e = true) (h : IsCip key e t a b) : mulZ b (powZ a (-s)) = e := by
  have hb : b = mulZ e (powZ 4 (s * t)) := by rw [← h.hb, hk, powZ_mul elB_4]
  rw [hb, ← h.ha, strip_alg he, show s * t + t * (-s) = 0 by rw [Int.mul_neg, Int.mul_comm t s]; omega, powZ_zero elB_4, mulZ_one_r he]
set_option maxRecDepth 100000 in
set_option maxHeartbeats 8000000 in
theorem sane43_any (w : World) (hk : Hid (KeysAt w)) : Calls Tryd.prog 6 #[] w fun e w' => e = .returned (.bool true) ∧ Below w.heap.size w w' := by
  obtain ⟨a, b, hc⟩ := isCip 64 (elmZ 9) 5
  obtain ⟨ds, hds⟩ := isTag 0 64 a b
  obtain ⟨e0, e1, hsig⟩ := isSig 5 (ltx 7 1 1048576)
  obtain ⟨f0, f1, hsif⟩ := isSig 5 (ltx 0 1 1)
  obtain ⟨a0, b0, h0⟩ := isCip 64 (elmZ 1) 1
  obtain ⟨a1, b1, h1⟩ := isCip 64 (elmZ (e0 + 1)) 2
  obtain ⟨a2, b2, h2⟩ := isCip 64 (elmZ (e1 + 1)) 3
  obtain ⟨A, hA⟩ : ∃ A, mulZ a a0 = A := ⟨_, rfl⟩
  obtain ⟨B, hB⟩ : ∃ B, mulZ b b0 = B := ⟨_, rfl⟩
  have er := hsig.rng
  have w0 : wordB (e0 + 1) = true := by unfold wordB; simp; omega
  have w1 : wordB (e1 + 1) = true := by unfold wordB; simp; omega
  have hAB := sealed_cip elB_64 (elm_el (n := 9) (by decide)) hc h0
  rw [hA, hB] at hAB
  have l9 := elm_el (n := 9) (by decide)
  have l1 := elm_el (n := 1) (by decide)
  have lp := elm_el w0
  have lq := elm_el w1
  have c0 := cip_el elB_64 l9 hc
  have c1 := cip_el elB_64 l9 hAB
  have c2 := cip_el elB_64 lp h1
  have c3 := cip_el elB_64 lq h2
  have HC1 := Lib.hid (chk_of c1.1 c1.2 c2.1 c2.2 c3.1 c3.2)
  have s0 := Lib.hid (strip_one k_pow3.symm l9 hAB)
  have s1 := Lib.hid (strip_one k_pow3.symm lp h1)
  have s2 := Lib.hid (strip_one k_pow3.symm lq h2)
  have HC2 := Lib.hid (chk_of c1.1 l9 c2.1 lp c3.1 lq)
  have N0 := Lib.hid (num_elm (n := 9) (by omega)).1
  have N1 := Lib.hid (num_elm (n := e0 + 1) (by omega)).1
  have N2 := Lib.hid (num_elm (n := e1 + 1) (by omega)).1
  have HCP := Lib.hid hc
  have HD := Lib.hid hds
  have HL := Lib.hid hds.len
  have HS := Lib.hid hsig
  have HF := Lib.hid hsif
  have HRC := Lib.hid (show IsRC 0 64 a b ds 0 from .inr ⟨partB_iff.2 ⟨by decide, elB_64, c0.1, c0.2⟩, ds, hds, .inl ⟨rfl, rfl⟩⟩)
  have HRZ := Lib.hid (show IsRC 0 0 0 0 (List.replicate 32 0) 160 from .inl ⟨by unfold partB; rw [elB_0]; simp, rfl⟩)
  have HU : ∀ w' : World, Hid (KeysAt w') → Hid (∀ g : World, Below w'.heap.size w' g → Calls Tryd.prog 31 #[.agg (rtv 0 64 a b ds).toArray, .agg #[.int .i64 (e0 + 1), .int .i64 (e1 + 1)], .agg #[.int .i64 1, .int .i64 2, .int .i64 3]] g fun e g' => e = .returned (.tuple #[sealedV A B a1 b1 a2 b2, .int .i64 0]) ∧ Below g.heap.size g g') := fun w' hw => Lib.hid fun g hg => ouse_ok 0 64 a b ds (e0 + 1) (e1 + 1) 1 2 3 g HL (Lib.hid (hw.out.below hg)) HRC (Lib.hid w0) (Lib.hid w1) (Lib.hid elB_64) (Lib.hid ⟨by decide, w0, w1⟩) a0 b0 a1 b1 a2 b2 A B (Lib.hid h0) (Lib.hid h1) (Lib.hid h2) (Lib.hid hA) (Lib.hid hB)
  have HZ : ∀ w' : World, Hid (KeysAt w') → Hid (∀ g : World, Below w'.heap.size w' g → Calls Tryd.prog 31 #[.agg (rtv 0 0 0 0 (List.replicate 32 0)).toArray, .agg #[.int .i64 (e0 + 1), .int .i64 (e1 + 1)], .agg #[.int .i64 0, .int .i64 0, .int .i64 0]] g fun e g' => e = .returned (.tuple #[sealedV 0 0 0 0 0 0, .int .i64 160]) ∧ Below g.heap.size g g') := fun w' hw => Lib.hid fun g hg => ouse_ret 0 0 0 0 (List.replicate 32 0) (e0 + 1) (e1 + 1) 0 0 0 g (Lib.hid rfl) (Lib.hid (hw.out.below hg)) HRZ
  have OK1 := Lib.hid (ints3 (a := 7) (b := 1) (c := 1048576) (by unfold inR; omega) (by unfold inR; omega) (by unfold inR; omega))
  have OK2 := Lib.hid (ints3 (a := 0) (b := 1) (c := 1) (by unfold inR; omega) (by unfold inR; omega) (by unfold inR; omega))
  have V1 := Lib.hid (show IsVer 1024 (ltx 7 1 1048576) e0 e1 true by rw [← k_pow5]; exact hsig.ver)
  have V2 := Lib.hid (show IsVer 2 (ltx 7 1 1048576) e0 e1 false from IsVer.no (by rw [elB_2]; rfl))
  have V3 := Lib.hid (show IsVer 1024 (ltx 7 1 1048576) (-1) (-1) false from IsVer.no (by rw [show inQ (-1) = false by decide]; simp))
  have W1 : IntKind.i64.wrap (e0 + 1 - 1) = e0 := by rw [IntWalk.i64_in _ (by omega)]; omega
  have W2 : IntKind.i64.wrap (e1 + 1 - 1) = e1 := by rw [IntWalk.i64_in _ (by omega)]; omega
  have R0 := er.1
  have R1 := er.2
  have B0 := Lib.hid (Below.refl w.heap.size w)
  obtain ⟨g0, q0⟩ : ∃ g, elmZ 9 = g := ⟨_, rfl⟩
  obtain ⟨g1, q1⟩ : ∃ g, elmZ (e0 + 1) = g := ⟨_, rfl⟩
  obtain ⟨g2, q2⟩ : ∃ g, elmZ (e1 + 1) = g := ⟨_, rfl⟩
  rw [q0] at s0 HC2 N0 HCP
  rw [q1] at s1 HC2 N1
  rw [q2] at s2 HC2 N2
  clear hc hds hsig hsif h0 h1 h2 hA hB er hAB l9 l1 lp lq c0 c1 c2 c3 w0 w1 q1 q2
  go_enter Tryd.func6, Tryd.ntmps6
  go_upto_region 2 with fail
  have Kw := Lib.hid (bel_alloc1 w (.cells #[.int .i64 7, .int .i64 1, .int .i64 1048576] 23))
  have P1 := Lib.hid (Blk.new w #[.int .i64 7, .int .i64 1, .int .i64 1048576] 23)
  have B1 := Lib.hid (bel_trans B0.out Kw.out)
  clear Kw
  generalize World.alloc w _ = v0 at P1 B1 ⊢
  generalize hpb : w.heap.size = pb at P1 ⊢
  have hpb2 := Lib.hid hpb
  clear hpb
  go_wp2_with (first
    | (go_at_call 9; refine (omake_ok 0 64 9 5 _ (Lib.hid (by decide)) (Lib.hid elB_64) (Lib.hid (by decide)) a b ds (Lib.hid (by rw [q0]; exact HCP.out)) HD (Lib.hid (hk.out.below B1.out))).mono ?_; rintro e v1 ⟨rfl, hb⟩; have B2 := Lib.hid (bel_trans B1.out hb); have P2 := Lib.hid (P1.out.below hb P1.out.lt); clear hb)
    | (refine list_storeR rfl (.tmp 2) (.tmp 20) rfl v1.heap.size rfl 0 64 a b ds rfl HL.out 0 0 0 0 (List.replicate 32 0) (RBlk.new v1) ?_)
  )
  intro v2 qv kv
  have Kv := Lib.hid ((bel_alloc1 v1 _).trans (kv.below (Nat.le_refl _)))
  have Qv := Lib.hid qv
  clear qv kv
  have B3 := Lib.hid (bel_trans B2.out Kv.out)
  have P3 := Lib.hid (P2.out.below Kv.out P2.out.lt)
  obtain ⟨xb, hxb⟩ : ∃ q, v1.heap.size = q := ⟨_, rfl⟩
  rw [hxb] at Qv ⊢
  clear hxb
  have X3 := Qv
  clear Kv
  go_upto_region 3 with fail
  have p0 := P3.out.cell 0
  have p1 := P3.out.cell 1
  have p2 := P3.out.cell 2
  go_upto_region 4 with (first
    | (refine list_loadR (by rfl) (.tmp 2) rfl xb rfl 0 64 a b ds X3.out ?_)
    | (go_at_call 10; refine (recMake_use 5 7 1 1048576 0 64 a b ds 1 2 3 _ HL OK1 (Lib.hid (hk.out.below B3.out)) (by omega) (by omega) e0 e1 HS (Lib.hid (by decide)) R0 R1 A B a1 b1 a2 b2 0 (HU _ (Lib.hid (hk.out.below B3.out)))).mono ?_; rintro e w1 ⟨rfl, hb⟩; have B4 := Lib.hid (bel_trans B3.out hb); have P4 := Lib.hid (P3.out.below hb P3.out.lt); have X4 := Lib.hid (X3.out.bel hb); clear hb)
  )
  clear p0 p1 p2
  have Kw1 := Lib.hid (bel_alloc1 w1 (.cells #[.int .i64 A, .int .i64 B, .int .i64 a1, .int .i64 b1, .int .i64 a2, .int .i64 b2] 39))
  have Qw1 := Lib.hid (Blk.new w1 #[.int .i64 A, .int .i64 B, .int .i64 a1, .int .i64 b1, .int .i64 a2, .int .i64 b2] 39)
  generalize World.alloc w1 _ = w1' at Kw1 Qw1 ⊢
  generalize w1.heap.size = w1b at Qw1 ⊢
  have B5 := Lib.hid (bel_trans B4.out Kw1.out)
  have P5 := Lib.hid (P4.out.below Kw1.out P4.out.lt)
  have X5 := Lib.hid (X4.out.bel Kw1.out)
  have S5 := Qw1
  clear Kw1
  have p0 := S5.out.cell 0
  have p1 := S5.out.cell 1
  have p2 := S5.out.cell 2
  have p3 := S5.out.cell 3
  have p4 := S5.out.cell 4
  have p5 := S5.out.cell 5
  go_upto_region 5 with (first
    | (go_at_call 11; refine (strip_is 3 A B a1 b1 a2 b2 g0 g1 g2 _ (Lib.hid (by decide)) HC1 s0 s1 s2).mono ?_; rintro e w2 ⟨rfl, hb⟩; have B6 := Lib.hid (bel_trans B5.out hb); have P6 := Lib.hid (P5.out.below hb P5.out.lt); have X6 := Lib.hid (X5.out.bel hb); have S6 := Lib.hid (S5.out.below hb S5.out.lt); clear hb)
  )
  clear p0 p1 p2 p3 p4 p5
  have Kw2 := Lib.hid (bel_alloc1 w2 (.cells #[.int .i64 A, .int .i64 g0, .int .i64 a1, .int .i64 g1, .int .i64 a2, .int .i64 g2] 39))
  have Qw2 := Lib.hid (Blk.new w2 #[.int .i64 A, .int .i64 g0, .int .i64 a1, .int .i64 g1, .int .i64 a2, .int .i64 g2] 39)
  generalize World.alloc w2 _ = w2' at Kw2 Qw2 ⊢
  generalize w2.heap.size = w2b at Qw2 ⊢
  have B7 := Lib.hid (bel_trans B6.out Kw2.out)
  have P7 := Lib.hid (P6.out.below Kw2.out P6.out.lt)
  have X7 := Lib.hid (X6.out.bel Kw2.out)
  have S7 := Lib.hid (S6.out.below Kw2.out S6.out.lt)
  have T7 := Qw2
  clear Kw2
  have p0 := T7.out.cell 0
  have p1 := T7.out.cell 1
  have p2 := T7.out.cell 2
  have p3 := T7.out.cell 3
  have p4 := T7.out.cell 4
  have p5 := T7.out.cell 5
  go_upto_region 6 with (first
    | (go_at_call 12; refine (read_is A g0 a1 g1 a2 g2 9 (e0 + 1) (e1 + 1) _ HC2 N0 N1 N2).mono ?_; rintro e w3 ⟨rfl, hb⟩; have B8 := Lib.hid (bel_trans B7.out hb); have P8 := Lib.hid (P7.out.below hb P7.out.lt); have X8 := Lib.hid (X7.out.bel hb); have T8 := Lib.hid (T7.out.below hb T7.out.lt); clear hb)
  )
  clear p0 p1 p2 p3 p4 p5
  have Kw3 := Lib.hid (bel_alloc1 w3 (.cells #[.int .i64 9, .int .i64 (e0 + 1), .int .i64 (e1 + 1)] 23))
  have Qw3 := Lib.hid (Blk.new w3 #[.int .i64 9, .int .i64 (e0 + 1), .int .i64 (e1 + 1)] 23)
  generalize World.alloc w3 _ = w3' at Kw3 Qw3 ⊢
  generalize w3.heap.size = w3b at Qw3 ⊢
  have B9 := Lib.hid (bel_trans B8.out Kw3.out)
  have P9 := Lib.hid (P8.out.below Kw3.out P8.out.lt)
  have X9 := Lib.hid (X8.out.bel Kw3.out)
  have T9 := Lib.hid (T8.out.below Kw3.out T8.out.lt)
  have Y9 := Qw3
  clear Kw3
  have p0 := P9.out.cell 0
  have p1 := P9.out.cell 1
  have p2 := P9.out.cell 2
  go_upto_region 7 with (first
    | (refine list_loadR (by rfl) (.tmp 2) rfl xb rfl 0 64 a b ds X9.out ?_)
    | (go_at_call 10; refine (recMake_key 0 7 1 1048576 0 64 a b ds 0 0 0 _ HL OK1 (Lib.hid (hk.out.below B9.out)) (by omega)).mono ?_; rintro e w4 ⟨rfl, hb⟩; have B10 := Lib.hid (bel_trans B9.out hb); have P10 := Lib.hid (P9.out.below hb P9.out.lt); have X10 := Lib.hid (X9.out.bel hb); have Y10 := Lib.hid (Y9.out.below hb Y9.out.lt); clear hb)
  )
  clear p0 p1 p2
  have Kw4 := Lib.hid (bel_alloc1 w4 (.cells #[.int .i64 0, .int .i64 0, .int .i64 0, .int .i64 0, .int .i64 0, .int .i64 0] 39))
  have Qw4 := Lib.hid (Blk.new w4 #[.int .i64 0, .int .i64 0, .int .i64 0, .int .i64 0, .int .i64 0, .int .i64 0] 39)
  generalize World.alloc w4 _ = w4' at Kw4 Qw4 ⊢
  generalize w4.heap.size = w4b at Qw4 ⊢
  have B11 := Lib.hid (bel_trans B10.out Kw4.out)
  have P11 := Lib.hid (P10.out.below Kw4.out P10.out.lt)
  have X11 := Lib.hid (X10.out.bel Kw4.out)
  have Y11 := Lib.hid (Y10.out.below Kw4.out Y10.out.lt)
  clear Qw4
  clear Kw4
  go_upto_region 8 with (first
    | (refine list_loadR (by rfl) (.tmp 2) rfl xb rfl 0 64 a b ds X11.out ?_)
    | (go_at_call 10; refine (recMake_rec 5 0 1 1 0 64 a b ds 0 0 0 _ HL OK2 (Lib.hid (hk.out.below B11.out)) (by omega) (by omega) f0 f1 HF (Lib.hid (by decide))).mono ?_; rintro e w5 ⟨rfl, hb⟩; have B12 := Lib.hid (bel_trans B11.out hb); have P12 := Lib.hid (P11.out.below hb P11.out.lt); have X12 := Lib.hid (X11.out.bel hb); have Y12 := Lib.hid (Y11.out.below hb Y11.out.lt); clear hb)
  )
  have Kw5 := Lib.hid (bel_alloc1 w5 (.cells #[.int .i64 0, .int .i64 0, .int .i64 0, .int .i64 0, .int .i64 0, .int .i64 0] 39))
  have Qw5 := Lib.hid (Blk.new w5 #[.int .i64 0, .int .i64 0, .int .i64 0, .int .i64 0, .int .i64 0, .int .i64 0] 39)
  generalize World.alloc w5 _ = w5' at Kw5 Qw5 ⊢
  generalize w5.heap.size = w5b at Qw5 ⊢
  have B13 := Lib.hid (bel_trans B12.out Kw5.out)
  have P13 := Lib.hid (P12.out.below Kw5.out P12.out.lt)
  have X13 := Lib.hid (X12.out.bel Kw5.out)
  have Y13 := Lib.hid (Y12.out.below Kw5.out Y12.out.lt)
  clear Qw5
  clear Kw5
  have p0 := P13.out.cell 0
  have p1 := P13.out.cell 1
  have p2 := P13.out.cell 2
  go_upto_region 9 with (first
    | (go_at_call 10; refine (recMake_use 5 7 1 1048576 0 0 0 0 (List.replicate 32 0) 0 0 0 _ (Lib.hid rfl) OK1 (Lib.hid (hk.out.below B13.out)) (by omega) (by omega) e0 e1 HS (Lib.hid (by decide)) R0 R1 0 0 0 0 0 0 160 (HZ _ (Lib.hid (hk.out.below B13.out)))).mono ?_; rintro e w6 ⟨rfl, hb⟩; have B14 := Lib.hid (bel_trans B13.out hb); have P14 := Lib.hid (P13.out.below hb P13.out.lt); have X14 := Lib.hid (X13.out.bel hb); have Y14 := Lib.hid (Y13.out.below hb Y13.out.lt); clear hb)
  )
  clear p0 p1 p2
  have Kw6 := Lib.hid (bel_alloc1 w6 (.cells #[.int .i64 0, .int .i64 0, .int .i64 0, .int .i64 0, .int .i64 0, .int .i64 0] 39))
  have Qw6 := Lib.hid (Blk.new w6 #[.int .i64 0, .int .i64 0, .int .i64 0, .int .i64 0, .int .i64 0, .int .i64 0] 39)
  generalize World.alloc w6 _ = w6' at Kw6 Qw6 ⊢
  generalize w6.heap.size = w6b at Qw6 ⊢
  have B15 := Lib.hid (bel_trans B14.out Kw6.out)
  have P15 := Lib.hid (P14.out.below Kw6.out P14.out.lt)
  have X15 := Lib.hid (X14.out.bel Kw6.out)
  have Y15 := Lib.hid (Y14.out.below Kw6.out Y14.out.lt)
  clear Qw6
  clear Kw6
  go_upto_region 11 with fail
  have y0 := Y15.out.cell 0
  have y1 := Y15.out.cell 1
  have y2 := Y15.out.cell 2
  go_upto_region 12 with fail
  clear y0 y1 y2
  have Ko := Lib.hid (bel_alloc1 w6' (.cells #[.int .i64 9, .int .i64 (e0 + 1), .int .i64 (e1 + 1)] 23))
  have Qo := Lib.hid (Blk.new w6' #[.int .i64 9, .int .i64 (e0 + 1), .int .i64 (e1 + 1)] 23)
  generalize World.alloc w6' _ = wo at Ko Qo ⊢
  have sepP := P15.out.lt
  have sepY := Y15.out.lt
  have sepB := B15.out.size
  generalize w6'.heap.size = ob at Qo sepP sepY sepB ⊢
  have B16 := Lib.hid (bel_trans B15.out Ko.out)
  have P16 := Lib.hid (P15.out.below Ko.out P15.out.lt)
  have X16 := Lib.hid (X15.out.bel Ko.out)
  have Y16 := Lib.hid (Y15.out.below Ko.out Y15.out.lt)
  clear Ko
  have o0 := Qo.out.cell 0
  have f0' := Qo.out.frozen 0
  go_upto_region 13 with fail
  have QO := Lib.hid (Qo.out.set 0 (.int .i64 8))
  have PO := Lib.hid (P16.out.other 0 (.int .i64 8) (show pb ≠ ob by omega))
  have YO := Lib.hid (Y16.out.other 0 (.int .i64 8) (show w3b ≠ ob by omega))
  have BO := Lib.hid (B16.out.setCell (p := ⟨ob, 0, none⟩) (show w.heap.size ≤ ob by omega) (.int .i64 8))
  clear o0 f0' Qo P16 Y16 B16
  generalize World.setCell _ _ _ = V at QO PO YO BO ⊢
  have QO := Lib.hid (show Blk V ob #[.int .i64 8, .int .i64 (e0 + 1), .int .i64 (e1 + 1)] 23 from QO.out)
  have p0 := PO.out.cell 0
  have p1 := PO.out.cell 1
  have p2 := PO.out.cell 2
  have y0 := YO.out.cell 0
  have y1 := YO.out.cell 1
  have y2 := YO.out.cell 2
  have z0 := QO.out.cell 0
  have z1 := QO.out.cell 1
  have z2 := QO.out.cell 2
  go_wp2_with (first
    | (go_at_call 13; with_reducible refine (recChk_is 1024 7 1 1048576 9 (e0 + 1) (e1 + 1) e0 e1 true _ OK1 (Lib.hid (hk.out.below BO.out)) W1 W2 V1).mono ?_; rintro e u1 ⟨rfl, hb⟩; have B17 := Lib.hid (bel_trans BO.out hb); have P17 := Lib.hid (PO.out.below hb PO.out.lt); have Y17 := Lib.hid (YO.out.below hb YO.out.lt); have Q17 := Lib.hid (QO.out.below hb QO.out.lt); clear hb p0 p1 p2 y0 y1 y2 z0 z1 z2; have p0 := P17.out.cell 0; have p1 := P17.out.cell 1; have p2 := P17.out.cell 2; have y0 := Y17.out.cell 0; have y1 := Y17.out.cell 1; have y2 := Y17.out.cell 2; have z0 := Q17.out.cell 0; have z1 := Q17.out.cell 1; have z2 := Q17.out.cell 2)
    | (go_at_call 13; with_reducible refine (recChk_is 1024 7 1 1048576 8 (e0 + 1) (e1 + 1) e0 e1 true _ OK1 (Lib.hid (hk.out.below B17.out)) W1 W2 V1).mono ?_; rintro e u2 ⟨rfl, hb⟩; have B18 := Lib.hid (bel_trans B17.out hb); have P18 := Lib.hid (P17.out.below hb P17.out.lt); have Y18 := Lib.hid (Y17.out.below hb Y17.out.lt); have Q18 := Lib.hid (Q17.out.below hb Q17.out.lt); clear hb p0 p1 p2 y0 y1 y2 z0 z1 z2; have p0 := P18.out.cell 0; have p1 := P18.out.cell 1; have p2 := P18.out.cell 2; have y0 := Y18.out.cell 0; have y1 := Y18.out.cell 1; have y2 := Y18.out.cell 2; have z0 := Q18.out.cell 0; have z1 := Q18.out.cell 1; have z2 := Q18.out.cell 2)
    | (go_at_call 13; with_reducible refine (recChk_is 2 7 1 1048576 9 (e0 + 1) (e1 + 1) e0 e1 false _ OK1 (Lib.hid (hk.out.below B18.out)) W1 W2 V2).mono ?_; rintro e u3 ⟨rfl, hb⟩; have B19 := Lib.hid (bel_trans B18.out hb); have P19 := Lib.hid (P18.out.below hb P18.out.lt); have Y19 := Lib.hid (Y18.out.below hb Y18.out.lt); have Q19 := Lib.hid (Q18.out.below hb Q18.out.lt); clear hb p0 p1 p2 y0 y1 y2 z0 z1 z2; have p0 := P19.out.cell 0; have p1 := P19.out.cell 1; have p2 := P19.out.cell 2; have y0 := Y19.out.cell 0; have y1 := Y19.out.cell 1; have y2 := Y19.out.cell 2; have z0 := Q19.out.cell 0; have z1 := Q19.out.cell 1; have z2 := Q19.out.cell 2)
    | (go_at_call 13; with_reducible refine (recChk_is 1024 7 1 1048576 9 0 0 (-1) (-1) false _ OK1 (Lib.hid (hk.out.below B19.out)) rfl rfl V3).mono ?_; rintro e u4 ⟨rfl, hb⟩; have B20 := Lib.hid (bel_trans B19.out hb); have P20 := Lib.hid (P19.out.below hb P19.out.lt); have Y20 := Lib.hid (Y19.out.below hb Y19.out.lt); have Q20 := Lib.hid (Q19.out.below hb Q19.out.lt); clear hb p0 p1 p2 y0 y1 y2 z0 z1 z2; have p0 := P20.out.cell 0; have p1 := P20.out.cell 1; have p2 := P20.out.cell 2; have y0 := Y20.out.cell 0; have y1 := Y20.out.cell 1; have y2 := Y20.out.cell 2; have z0 := Q20.out.cell 0; have z1 := Q20.out.cell 1; have z2 := Q20.out.cell 2)
  )
  go_ret
  exact ⟨rfl, B20.out⟩
end Go.Proofs.YtpjobllfiimdkaaDoor
