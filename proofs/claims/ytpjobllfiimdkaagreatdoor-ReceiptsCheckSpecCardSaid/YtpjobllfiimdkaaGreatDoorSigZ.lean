/- Package sign: Sign. What the laws of package sign share. Package sign: Sign. -/
import Derived.Test.YtpjobllfiimdkaaGreatDoorSigCh
import Derived.Test.YtpjobllfiimdkaaGreatDoorRegU
import Derived.Laws.StructEq
import Derived.ChangeKeysEq
import Derived.Lib.SlBytesConst
import Derived.Lib.SmallJoins
namespace Go.Proofs.YtpjobllfiimdkaaGreatDoor
open Go.RowKit
set_option linter.unusedVariables false
set_option linter.unusedSimpArgs false

theorem pow_is (a n r : Int) (w : World) (h : Hid (IsPw a n r)) (ha : Hid (IsPe a 0)) : Calls Tryz.prog 39 #[.int .i64 a, .int .i64 n] w fun e w' => e = .returned (.tuple #[.int .i64 r, .int .i64 0]) ∧ Below w.heap.size w w' := by
  rw [← h.out.eq, ← ha.out.eq]; exact gPow_any a n w
theorem pe4 : IsPe 4 0 := ⟨c_powE⟩
theorem mulQ_bound {a b : Int} (a0 : 0 ≤ a) (a1 : a < 1073741789) (b0 : 0 ≤ b) (b1 : b < 1073741789) : 0 ≤ a * b ∧ a * b ≤ 1152921504606846976 := by
  refine ⟨Int.mul_nonneg a0 b0, ?_⟩
  have : a * b ≤ 1073741789 * 1073741789 := Int.mul_le_mul (by omega) (by omega) b0 (by omega)
  omega
set_option maxHeartbeats 400000 in
theorem inRange_any (n : Int) (v : Bool) (w : World) (hv : inQ n = v) : Calls Tryz.prog 61 #[.int .i64 n] w fun e w' => e = .returned (.bool v) ∧ w = w' := by
  subst hv
  unfold inQ
  by_cases h1 : 0 ≤ n
  · go_enter Tryz.func61, Tryz.ntmps61
    go_wp2
    go_ret
    refine ⟨?_, rfl⟩
    simp [h1]
  · go_enter Tryz.func61, Tryz.ntmps61
    go_wp2
    go_ret
    have h2 : decide (0 ≤ n) = false := by simpa using h1
    rw [h2]
    exact ⟨rfl, rfl⟩
set_option maxRecDepth 100000 in
set_option maxHeartbeats 4000000 in
theorem verify_no (key e s : Int) (p : Option Addr) (m c : Nat) (w : World) (h : Hid ((elB key && inQ e && inQ s) = false)) : Calls Tryz.prog 22 #[.int .i64 key, .slice p m c, .agg #[.int .i64 e, .int .i64 s]] w fun r w' => r = .returned (.bool false) ∧ Below w.heap.size w w' := by
  cases h1 : elB key with
  | false =>
    have H1 := Lib.hid h1
    clear h1
    go_enter Tryz.func22, Tryz.ntmps22
    go_wp2_with (go_at_call 25; refine (valid_any _ _).mono ?_; rintro r u1 ⟨rfl, rfl⟩; rw [H1.out])
    go_ret
    exact ⟨rfl, bel_alloc1 w _⟩
  | true =>
    have H1 := Lib.hid h1
    cases h2 : inQ e with
    | false =>
      have H2 := Lib.hid h2
      clear h1 h2
      go_enter Tryz.func22, Tryz.ntmps22
      go_wp2_with (first | (go_at_call 25; refine (valid_any _ _).mono ?_; rintro r u1 ⟨rfl, rfl⟩; rw [H1.out]) | (go_at_call 61; refine (inRange_any e false _ H2.out).mono ?_; rintro r u1 ⟨rfl, rfl⟩))
      go_ret
      exact ⟨rfl, bel_alloc1 w _⟩
    | true =>
      have H2 := Lib.hid h2
      have h3 := h.out
      rw [h1, h2] at h3
      have H3 := Lib.hid (show inQ s = false from h3)
      clear h1 h2 h3
      go_enter Tryz.func22, Tryz.ntmps22
      go_wp2_with (first | (go_at_call 25; refine (valid_any _ _).mono ?_; rintro r u1 ⟨rfl, rfl⟩; rw [H1.out]) | (go_at_call 61; ((with_reducible refine (inRange_any e true _ H2.out).mono ?_); rintro r u1 ⟨rfl, rfl⟩)) | (go_at_call 61; ((with_reducible refine (inRange_any s false _ H3.out).mono ?_); rintro r u1 ⟨rfl, rfl⟩)))
      go_ret
      exact ⟨rfl, bel_alloc1 w _⟩
theorem mul_is (a b r : Int) (w : World) (h : Hid (IsMl a b r)) (ha : elB a = true) (hb : elB b = true) : Calls Tryz.prog 62 #[.int .i64 a, .int .i64 b] w fun e w' => e = .returned (.tuple #[.int .i64 r, .int .i64 0]) ∧ Below w.heap.size w w' := by
  have h2 : mulE a b = 0 := mulE_el ha hb
  rw [← h.out.eq, ← h2]; exact gMul_any a b w
theorem pe_el {a : Int} (h : elB a = true) : IsPe a 0 := ⟨by unfold powE; rw [h]; rfl⟩
set_option maxRecDepth 100000 in
set_option maxHeartbeats 4000000 in
theorem verify_yes (key e s : Int) (p : Option Addr) (m c : Nat) (bs : List Int) (w : World) (hk1 : Hid (elB key = true)) (he : inQ e = true) (hs1 : inQ s = true) (hs : Hid (txOk bs)) (hz : Hid (SrcW w p m c bs)) (hk : Hid (KeysAt w)) (h : Int) (hh : Hid (IsCh (ptZ key e s) key bs h)) :
    Calls Tryz.prog 22 #[.int .i64 key, .slice p m c, .agg #[.int .i64 e, .int .i64 s]] w fun r w' => r = .returned (.bool (decide (e = h))) ∧ Below w.heap.size w w' := by
  obtain ⟨e0, e1⟩ := inQ_iff.1 he
  have HE := Lib.hid he; have HS := Lib.hid hs1
  have h1 := hh.out
  obtain ⟨l, hl⟩ := isPw 4 s
  obtain ⟨q, hq⟩ := isPw key (-e)
  have el := powZ_el elB_4 s
  have eq := powZ_el hk1.out (-e)
  have ept := ptZ_el (e := e) (s := s) hk1.out
  unfold ptZ at h1 ept
  rw [hl.eq, hq.eq] at h1 ept
  rw [hl.eq] at el
  rw [hq.eq] at eq
  obtain ⟨pt, hpt⟩ := isMl l q
  rw [hpt.eq] at h1 ept
  have HL := Lib.hid hl; have HQ := Lib.hid hq; have HPT := Lib.hid hpt; have HEL := Lib.hid el; have HEQ := Lib.hid eq; have HCH := Lib.hid h1
  have hb1 := elB_iff ept
  have hb2 := elB_iff hk1.out
  have HB1 := Lib.hid (show 0 ≤ pt ∧ pt < 2147483579 by omega)
  have HB2 := Lib.hid (show 0 ≤ key ∧ key < 2147483579 by omega)
  clear he hs1 h1 hl hq el eq ept hpt hb1 hb2
  have V1 := Lib.hid (Blk.new w #[.int .i64 e, .int .i64 s] 46)
  have B1 := Lib.hid (bel_alloc1 w (.cells #[.int .i64 e, .int .i64 s] 46))
  go_enter Tryz.func22, Tryz.ntmps22
  go_wp2_with (first
    | (go_at_call 25; refine (valid_any _ _).mono ?_; rintro r u1 ⟨rfl, rfl⟩; rw [hk1.out])
    | (go_at_call 61; ((with_reducible refine (inRange_any e true _ HE.out).mono ?_); rintro r u1 ⟨rfl, rfl⟩))
    | (go_at_call 61; ((with_reducible refine (inRange_any s true _ HS.out).mono ?_); rintro r u1 ⟨rfl, rfl⟩))
    | (go_at_call 39; ((with_reducible refine (pow_is 4 s l _ HL (Lib.hid pe4)).mono ?_); rintro r u2 ⟨rfl, j2⟩; have V2 := V1.out.below j2 V1.out.lt; have q0 := V2.cell 0; have q1 := V2.cell 1; have B2 := Lib.hid (bel_trans B1.out j2); have L2 := V2.lt; clear j2))
    | (go_at_call 39; ((with_reducible refine (pow_is key (-e) q _ HQ (Lib.hid (pe_el hk1.out))).mono ?_); rintro r u3 ⟨rfl, j3⟩; have V3 := Lib.hid (V2.below j3 L2); have B3 := Lib.hid (bel_trans B2.out j3); clear j3 q0 q1 V2))
    | (go_at_call 62; ((with_reducible refine (mul_is l q pt _ HPT HEL.out HEQ.out).mono ?_); rintro r u4 ⟨rfl, j4⟩; have V4 := V3.out.below j4 V3.out.lt; have B4 := Lib.hid (bel_trans B3.out j4); clear j4)))
  refine wp_region_any (by kernel_rfl) ?_
  change wpAny _ _ _ _ _ _ _ (World.drew _)
  generalize hWD : World.drew u4 = W
  have VW := Lib.hid (show Blk W w.heap.size #[.int .i64 e, .int .i64 s] 46 by rw [← hWD]; exact V4)
  have BW := Lib.hid (show Below w.heap.size w W by rw [← hWD]; exact B4.out.drew)
  clear hWD V4 B4
  have hCD : ∀ u, Ext W u → Ext W u := fun u hu => hu
  refine region_U (D := Ext W) (Ext W) [6, 7] (Ext.refl W) ?_
  refine anyU_takeD (i := 0) (v := .pointer (some ⟨w.heap.size, 0, none⟩)) 48 rfl rfl (by kernel_rfl) (by kernel_rfl) (by kernel_rfl) (fun _ _ _ h => h) (by kernel_rfl) (Ext.stable _) hCD (yieldsU_val rfl (fun u hu => by go_simp)) ?_
  refine anyU_takeD (i := 1) (v := .int .i64 e) 49 rfl rfl (by kernel_rfl) (by kernel_rfl) (by kernel_rfl) (fun _ _ _ h => h) (by kernel_rfl) (Ext.stable _) hCD (yieldsU_val rfl (fun u hu => by have c := (VW.out.below hu VW.out.lt).cell 0; go_simp)) ?_
  refine anyU_takeD (i := 2) (v := .int .i64 pt) 50 rfl rfl (by kernel_rfl) (by kernel_rfl) (by kernel_rfl) (fun _ _ _ h => h) (by kernel_rfl) (Ext.stable _) hCD (yieldsU_val rfl (fun u hu => by rfl)) ?_
  refine anyU_takeD (i := 3) (v := .int .i64 key) 51 rfl rfl (by kernel_rfl) (by kernel_rfl) (by kernel_rfl) (fun _ _ _ h => h) (by kernel_rfl) (Ext.stable _) hCD (yieldsU_val rfl (fun u hu => by rfl)) ?_
  refine anyU_takeD (i := 4) (v := .slice p m c) 52 rfl rfl (by kernel_rfl) (by kernel_rfl) (by kernel_rfl) (fun _ _ _ h => h) (by kernel_rfl) (Ext.stable _) hCD (yieldsU_val rfl (fun u hu => by rfl)) ?_
  simp only [Act.put, List.setIfInBounds_toArray, List.set_cons_succ, List.set_cons_zero]
  refine anyU_takeD (i := 5) (v := .int .i64 h) 53 rfl rfl (by kernel_rfl) (by kernel_rfl) (by kernel_rfl) (fun _ _ _ h => h) (by kernel_rfl) (Ext.stable _) hCD (yieldsU_call rfl 40 _ _ rfl #[.int .i64 pt, .int .i64 key, .slice p m c] (by simp [Act.eval, Act.put]) (fun u => by go_simp) (fun u hu => challenge_any pt key p m c bs u HB1.out HB2.out hs (Lib.hid ((hz.out.below BW.out).below hu)) (Lib.hid ((hk.out.below BW.out).below hu)) h HCH)) ?_
  simp only [Act.put, List.setIfInBounds_toArray, List.set_cons_succ, List.set_cons_zero]
  refine anyU_tail 6 [7] rfl rfl (by decide) (by kernel_rfl) ?_
  intro u hu
  simp only [Act.put, List.filterMap_cons, List.filterMap_nil, List.getElem?_cons_succ, List.getElem?_cons_zero]
  have BU := Lib.hid (bel_trans BW.out hu)
  clear hu
  go_wp2_with fail
  go_ret
  exact ⟨rfl, BU.out⟩
end Go.Proofs.YtpjobllfiimdkaaGreatDoor
namespace Go.Proofs.YtpjobllfiimdkaaGreatDoor
open Go.RowKit Go.Shelf
set_option linter.unusedVariables false
set_option linter.unusedSimpArgs false

set_option maxRecDepth 100000 in
set_option maxHeartbeats 1000000 in
theorem eqSig (a b x y : Int) (w : World) : (Op.equalIn 10000 46 (.agg #[.int .i64 a, .int .i64 b]) (.agg #[.int .i64 x, .int .i64 y])).run Tryz.prog w = .ok (a == x && b == y) w := by
  have hS : Tryz.prog.underlying 46 = some (.struct (Tryz.prog.fieldsOf 46)) := by kernel_rfl
  have hp : Tryz.prog.stoodInHeld 46 = false := by kernel_rfl
  have hint : Tryz.prog.underlying 3 = some (.int .i64) := by kernel_rfl
  obtain ⟨f0, f1, hF, n0, n1, t0, t1, o0, o1⟩ : ∃ f0 f1 : Field, Tryz.prog.fieldsOf 46 = #[f0, f1] ∧ f0.name ≠ "_" ∧ f1.name ≠ "_" ∧ f0.type = 3 ∧ f1.type = 3 ∧ f0.offset = 0 ∧ f1.offset = 1 :=
    ⟨_, _, rfl, by decide, by decide, rfl, rfl, rfl, rfl⟩
  have e : ∀ (a b : Int) (w : World), (Op.equalIn 9999 3 (.int .i64 a) (.int .i64 b)).run Tryz.prog w = .ok (a == b) w := fun a b w => run_equalIn_int w 9998 _ _ _ a b hint
  have p0 : ∀ (u v : Int) (w : World), (part 3 #[.int .i64 u, .int .i64 v] 0).run Tryz.prog w = .ok (.int .i64 u) w := fun _ _ _ => by kernel_rfl
  have p1 : ∀ (u v : Int) (w : World), (part 3 #[.int .i64 u, .int .i64 v] 1).run Tryz.prog w = .ok (.int .i64 v) w := fun _ _ _ => by kernel_rfl
  rw [show (10000 : Nat) = 9999 + 1 from rfl, run_equalIn_struct w 9999 _ _ _ hS hp, hF]
  simp only [Op.eqFields, n0, n1, t0, t1, o0, o1, ne_eq, not_false_eq_true, if_true, Sem.run_bind, p0, p1, e, Result.andThen_ok]
  by_cases h1 : a = x <;> by_cases h2 : b = y <;> simp [h1, h2, p0, p1, e]
theorem verify_is (key e s : Int) (p : Option Addr) (m c : Nat) (bs : List Int) (w : World) (hs : Hid (txOk bs)) (hz : Hid (SrcW w p m c bs)) (hk : Hid (KeysAt w)) (v : Bool) (hv : Hid (IsVer key bs e s v)) :
    Calls Tryz.prog 22 #[.int .i64 key, .slice p m c, .agg #[.int .i64 e, .int .i64 s]] w fun r w' => r = .returned (.bool v) ∧ Below w.heap.size w w' := by
  obtain ⟨h, h1, h2⟩ := hv.out
  cases hb : (elB key && inQ e && inQ s) with
  | false =>
    rw [hb] at h2
    subst h2
    exact verify_no key e s p m c w (Lib.hid hb)
  | true =>
    rw [hb, Bool.true_and] at h2
    subst h2
    simp only [Bool.and_eq_true] at hb
    exact verify_yes key e s p m c bs w (Lib.hid hb.1.1) hb.1.2 hb.2 hs hz hk h (Lib.hid h1)
theorem srcW_set {W : World} {b0 off m c b o : Nat} {zs : List Int} {v : Value} (h : SrcW W (some ⟨b0, off, none⟩) m c zs) (hne : b0 ≠ b) : SrcW (W.setCell ⟨b, o, none⟩ v) (some ⟨b0, off, none⟩) m c zs := by
  rcases h with ⟨h1, ⟨h2, _⟩ | ⟨b', off', h2, h3, h4⟩⟩ | h
  · cases h2
  · cases h2
    exact .inl ⟨h1, .inr ⟨b0, off, rfl, by simpa using h3, fun j hj => (World.cell?_of_block (a := ⟨b0, off + j, none⟩) (Below.heap_setCell W ⟨b, o, none⟩ v b0 hne)).trans (h4 j hj)⟩⟩
  · exact .inr h
theorem c_pow5 : powZ 4 5 = 1024 := by unfold powZ; rw [elB_4]; rfl
theorem c_powQ1 : powZ 4 1073741788 = 536870895 := by
  rw [← c_pow3]
  apply powZ_congr
  decide
theorem nil_ok : txOk [] := ⟨by decide, by decide⟩
theorem nil_src (w : World) : SrcW w none 0 0 [] := .inl ⟨rfl, .inl ⟨rfl, rfl, rfl⟩⟩
end Go.Proofs.YtpjobllfiimdkaaGreatDoor
namespace Go.Proofs.YtpjobllfiimdkaaGreatDoor
open Go.RowKit
set_option linter.unusedVariables false
set_option linter.unusedSimpArgs false

set_option maxHeartbeats 400000 in
theorem times_any (a b : Int) (w : World) (a0 : 0 ≤ a) (a1 : a < 1073741789) (b0 : 0 ≤ b) (b1 : b < 1073741789) : Calls Tryz.prog 42 #[.int .i64 a, .int .i64 b] w fun e w' => e = .returned (.int .i64 (a * b % 1073741789)) ∧ w = w' := by
  obtain ⟨m0, m1⟩ := mulQ_bound a0 a1 b0 b1
  go_enter Tryz.func42, Tryz.ntmps42
  go_wp2
  go_ret
  exact ⟨rfl, rfl⟩
set_option maxHeartbeats 400000 in
theorem plus_any (a b : Int) (w : World) (a0 : 0 ≤ a) (a1 : a < 1073741789) (b0 : 0 ≤ b) (b1 : b < 1073741789) : Calls Tryz.prog 41 #[.int .i64 a, .int .i64 b] w fun e w' => e = .returned (.int .i64 ((a + b) % 1073741789)) ∧ w = w' := by
  go_enter Tryz.func41, Tryz.ntmps41
  go_wp2
  go_ret
  exact ⟨rfl, rfl⟩
set_option maxRecDepth 100000 in
set_option maxHeartbeats 2000000 in
theorem sign_no (x : Int) (p : Option Addr) (m c : Nat) (w : World) (hx : x < 1 ∨ 1073741789 ≤ x) : Calls Tryz.prog 13 #[.int .i64 x, .slice p m c] w fun e w' => e = .returned (.tuple #[.agg #[.int .i64 0, .int .i64 0], .int .i64 110]) ∧ Below w.heap.size w w' := by
  rcases hx with hx | hx
  · go_enter Tryz.func13, Tryz.ntmps13
    go_wp2_with fail
    refine bodyPost_ret (v := .tuple #[.agg #[.int .i64 0, .int .i64 0], .int .i64 110]) (by simp [results, Tryz.results13, go_sem]) rfl ⟨rfl, ?_⟩
    repeat refine Below.setCell ?_ (by simp) _
    exact bel_alloc1 w _
  · have hx1 : ¬ x < 1 := by omega
    go_enter Tryz.func13, Tryz.ntmps13
    go_wp2_with fail
    refine bodyPost_ret (v := .tuple #[.agg #[.int .i64 0, .int .i64 0], .int .i64 110]) (by simp [results, Tryz.results13, go_sem]) rfl ⟨rfl, ?_⟩
    repeat refine Below.setCell ?_ (by simp) _
    exact bel_alloc1 w _
set_option maxRecDepth 100000 in
set_option maxHeartbeats 4000000 in
theorem sign_yes (x : Int) (p : Option Addr) (m c : Nat) (bs : List Int) (w : World) (x0 : 1 ≤ x) (x1 : x < 1073741789) (hs : Hid (txOk bs)) (hz : Hid (SrcW w p m c bs)) (hk : Hid (KeysAt w)) (e s : Int) (hsig : Hid (IsSig x bs e s)) :
    Calls Tryz.prog 13 #[.int .i64 x, .slice p m c] w fun r w' => r = .returned (.tuple #[.agg #[.int .i64 e, .int .i64 s], .int .i64 0]) ∧ Below w.heap.size w w' := by
  obtain ⟨k, hk1, hk2, hk3⟩ := hsig.out
  have kr := hk1.rng
  have er := hk2.rng
  obtain ⟨h0, hh0, hkm⟩ := hk1
  have hr0 := hh0.rng
  have HH0 := Lib.hid hh0
  obtain ⟨pt, hpt⟩ := isPw 4 k
  obtain ⟨ky, hky⟩ := isPw 4 x
  have hpb := elB_iff (powZ_el elB_4 k)
  have hkb := elB_iff (powZ_el elB_4 x)
  rw [hpt.eq, hky.eq] at hk2
  rw [hpt.eq] at hpb
  rw [hky.eq] at hkb
  have HPT := Lib.hid hpt; have HKY := Lib.hid hky; have HCH := Lib.hid hk2
  have HPB := Lib.hid (show 0 ≤ pt ∧ pt < 2147483579 by omega)
  have HKB := Lib.hid (show 0 ≤ ky ∧ ky < 2147483579 by omega)
  obtain ⟨pr, hpr⟩ : ∃ y, e * x % 1073741789 = y := ⟨_, rfl⟩
  have hprb : 0 ≤ pr ∧ pr < 1073741789 := by omega
  rw [hpr] at hk3
  have HPR := Lib.hid hpr; have HS := Lib.hid hk3
  clear hh0 hpt hky hpb hkb hk2 hpr hk3
  obtain ⟨k0, k1⟩ := kr
  obtain ⟨e0, e1⟩ := er
  obtain ⟨p0, p1⟩ := hprb
  obtain ⟨r0, r1⟩ := hr0
  have HKM := Lib.hid hkm.symm
  clear hkm
  have HX := Lib.hid (show 0 ≤ x ∧ x < 2147483579 by omega)
  go_enter Tryz.func13, Tryz.ntmps13
  have V1 := Lib.hid (Blk.new w #[.int .i64 0, .int .i64 0] 46)
  have B1 := Lib.hid (bel_alloc1 w (.cells #[.int .i64 0, .int .i64 0] 46))
  go_wp2_with (first
    | (go_at_call 38; refine (text2 x p m c bs (w.alloc (.cells #[.int .i64 0, .int .i64 0] 46)) HX.out hs (Lib.hid (hz.out.below B1.out)) (w.heap.size + 1) (by simp)).mono ?_; rintro r u1 ⟨v1, rfl, o1, j1⟩; have O1 := Lib.hid o1; have V2 := Lib.hid (V1.out.below j1 V1.out.lt); have B2 := Lib.hid (bel_trans B1.out j1); clear o1 j1)
    | (go_at_call 37; refine (hash_own _ tNonce _ _ v1 _ strNonce O1 (Lib.hid (ok2 HX.out hs.out)) (by simp) (by rw [lenA2]; have := hs.out.1; omega) (by decide) (Lib.hid (hk.out.below B2.out)) _ HH0).mono ?_; rintro r u2 ⟨rfl, j2⟩; have V3 := Lib.hid (V2.out.below j2 V2.out.lt); have B3 := Lib.hid (bel_trans B2.out j2); clear j2)
    | (go_at_call 39; rw [HKM.out]; ((with_reducible refine (pow_is 4 k pt _ HPT (Lib.hid pe4)).mono ?_); rintro r u3 ⟨rfl, j3⟩; have V4 := Lib.hid (V3.out.below j3 V3.out.lt); have B4 := Lib.hid (bel_trans B3.out j3); clear j3))
    | (go_at_call 39; ((with_reducible refine (pow_is 4 x ky _ HKY (Lib.hid pe4)).mono ?_); rintro r u4 ⟨rfl, j4⟩; have V5 := Lib.hid (V4.out.below j4 V4.out.lt); have B5 := Lib.hid (bel_trans B4.out j4); clear j4))
    | (go_at_call 40; ((with_reducible refine (challenge_any pt ky p m c bs _ HPB.out HKB.out hs (Lib.hid (hz.out.below B5.out)) (Lib.hid (hk.out.below B5.out)) e HCH).mono ?_); rintro r u5 ⟨rfl, j5⟩; have V6 := V5.out.below j5 V5.out.lt; have q0 := V6.cell 0; have q1 := V6.cell 1; have g0 := V6.frozen 0; have g1 := V6.frozen 1; have B6 := Lib.hid (bel_trans B5.out j5); have V6H := Lib.hid V6; clear j5 V6))
    | (go_at_call 42; refine (times_any e x _ (by omega) (by omega) (by omega) (by omega)).mono ?_; rintro r u6 ⟨rfl, rfl⟩; rw [HPR.out])
    | (go_at_call 41; refine (plus_any _ pr _ (by omega) (by omega) (by omega) (by omega)).mono ?_; rintro r u7 ⟨rfl, rfl⟩; rw [← HS.out]))
  have VV : Blk _ w.heap.size #[.int .i64 e, .int .i64 s] 46 := ((((V6H.out.set 0 (.int .i64 e)).set 1 (.int .i64 s)).set 0 (.int .i64 e)).set 1 (.int .i64 s))
  have c0 := VV.cell 0
  have c1 := VV.cell 1
  refine bodyPost_ret (v := .tuple #[.agg #[.int .i64 e, .int .i64 s], .int .i64 0]) (by simp only [results, Tryz.results13]; simp [go_sem, c0, c1]) rfl ⟨rfl, ?_⟩
  repeat refine Below.setCell ?_ (by simp) _
  exact B6.out
end Go.Proofs.YtpjobllfiimdkaaGreatDoor
