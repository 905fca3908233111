/- Package sign: Sign. -/
import Derived.Test.YtjdkdhpippapmaaGreatDoorSigCh
import Derived.Test.YtjdkdhpippapmaaGreatDoorRegU
namespace Go.Proofs.YtjdkdhpippapmaaGreatDoor
open Go.RowKit
set_option linter.unusedVariables false
set_option linter.unusedSimpArgs false

theorem pow_is (a n r : Int) (w : World) (h : Hid (IsPw a n r)) (ha : Hid (IsPe a 0)) : Calls Tryz.prog 74 #[.int .i64 a, .int .i64 n] w fun e w' => e = .returned (.tuple #[.int .i64 r, .int .i64 0]) ∧ Below w.heap.size w w' := by
  rw [← h.out.eq, ← ha.out.eq]; exact gPow_any a n w
theorem pe4 : IsPe 4 0 := ⟨c_powE⟩
theorem mulQ_bound {a b : Int} (a0 : 0 ≤ a) (a1 : a < 1073741789) (b0 : 0 ≤ b) (b1 : b < 1073741789) : 0 ≤ a * b ∧ a * b ≤ 1152921504606846976 := by
  refine ⟨Int.mul_nonneg a0 b0, ?_⟩
  have : a * b ≤ 1073741789 * 1073741789 := Int.mul_le_mul (by omega) (by omega) b0 (by omega)
  omega
set_option maxHeartbeats 400000 in
theorem inRange_any (n : Int) (v : Bool) (w : World) (hv : inQ n = v) : Calls Tryz.prog 73 #[.int .i64 n] w fun e w' => e = .returned (.bool v) ∧ w = w' := by
  subst hv
  unfold inQ
  by_cases h1 : 0 ≤ n
  · go_enter Tryz.func73, Tryz.ntmps73
    go_wp2
    go_ret
    refine ⟨?_, rfl⟩
    simp [h1]
  · go_enter Tryz.func73, Tryz.ntmps73
    go_wp2
    go_ret
    have h2 : decide (0 ≤ n) = false := by simpa using h1
    rw [h2]
    exact ⟨rfl, rfl⟩
set_option maxRecDepth 100000 in
set_option maxHeartbeats 4000000 in
theorem verify_no (key e s : Int) (p : Option Addr) (m c : Nat) (w : World) (h : Hid ((elB key && inQ e && inQ s) = false)) : Calls Tryz.prog 37 #[.int .i64 key, .slice p m c, .agg #[.int .i64 e, .int .i64 s]] w fun r w' => r = .returned (.bool false) ∧ Below w.heap.size w w' := by
  cases h1 : elB key with
  | false =>
    have H1 := Lib.hid h1
    clear h1
    go_enter Tryz.func37, Tryz.ntmps37
    go_wp2_with (go_at_call 72; refine (valid_any _ _).mono ?_; rintro r u1 ⟨rfl, rfl⟩; rw [H1.out])
    go_ret
    exact ⟨rfl, bel_alloc1 w _⟩
  | true =>
    have H1 := Lib.hid h1
    cases h2 : inQ e with
    | false =>
      have H2 := Lib.hid h2
      clear h1 h2
      go_enter Tryz.func37, Tryz.ntmps37
      go_wp2_with (first | (go_at_call 72; refine (valid_any _ _).mono ?_; rintro r u1 ⟨rfl, rfl⟩; rw [H1.out]) | (go_at_call 73; refine (inRange_any e false _ H2.out).mono ?_; rintro r u1 ⟨rfl, rfl⟩))
      go_ret
      exact ⟨rfl, bel_alloc1 w _⟩
    | true =>
      have H2 := Lib.hid h2
      have h3 := h.out
      rw [h1, h2] at h3
      have H3 := Lib.hid (show inQ s = false from h3)
      clear h1 h2 h3
      go_enter Tryz.func37, Tryz.ntmps37
      go_wp2_with (first | (go_at_call 72; refine (valid_any _ _).mono ?_; rintro r u1 ⟨rfl, rfl⟩; rw [H1.out]) | (go_at_call 73; ((with_reducible refine (inRange_any e true _ H2.out).mono ?_); rintro r u1 ⟨rfl, rfl⟩)) | (go_at_call 73; ((with_reducible refine (inRange_any s false _ H3.out).mono ?_); rintro r u1 ⟨rfl, rfl⟩)))
      go_ret
      exact ⟨rfl, bel_alloc1 w _⟩
theorem mul_is (a b r : Int) (w : World) (h : Hid (IsMl a b r)) (ha : elB a = true) (hb : elB b = true) : Calls Tryz.prog 75 #[.int .i64 a, .int .i64 b] w fun e w' => e = .returned (.tuple #[.int .i64 r, .int .i64 0]) ∧ Below w.heap.size w w' := by
  have h2 : mulE a b = 0 := mulE_el ha hb
  rw [← h.out.eq, ← h2]; exact gMul_any a b w
theorem pe_el {a : Int} (h : elB a = true) : IsPe a 0 := ⟨by unfold powE; rw [h]; rfl⟩
set_option maxRecDepth 100000 in
set_option maxHeartbeats 4000000 in
theorem verify_yes (key e s : Int) (p : Option Addr) (m c : Nat) (bs : List Int) (w : World) (hk1 : Hid (elB key = true)) (he : inQ e = true) (hs1 : inQ s = true) (hs : Hid (txOk bs)) (hz : Hid (SrcW w p m c bs)) (hk : Hid (KeysAt w)) (h : Int) (hh : Hid (IsCh (ptZ key e s) key bs h)) :
    Calls Tryz.prog 37 #[.int .i64 key, .slice p m c, .agg #[.int .i64 e, .int .i64 s]] w fun r w' => r = .returned (.bool (decide (e = h))) ∧ Below w.heap.size w w' := by
  obtain ⟨e0, e1⟩ := inQ_iff.1 he
  have HE := Lib.hid he; have HS := Lib.hid hs1
  have h1 := hh.out
  obtain ⟨l, hl⟩ := isPw 4 s
  obtain ⟨q, hq⟩ := isPw key (-e)
  have el := powZ_el elB_4 s
  have eq := powZ_el hk1.out (-e)
  have ept := ptZ_el (e := e) (s := s) hk1.out
  unfold ptZ at h1 ept
  rw [hl.eq, hq.eq] at h1 ept
  rw [hl.eq] at el
  rw [hq.eq] at eq
  obtain ⟨pt, hpt⟩ := isMl l q
  rw [hpt.eq] at h1 ept
  have HL := Lib.hid hl; have HQ := Lib.hid hq; have HPT := Lib.hid hpt; have HEL := Lib.hid el; have HEQ := Lib.hid eq; have HCH := Lib.hid h1
  have hb1 := elB_iff ept
  have hb2 := elB_iff hk1.out
  have HB1 := Lib.hid (show 0 ≤ pt ∧ pt < 2147483579 by omega)
  have HB2 := Lib.hid (show 0 ≤ key ∧ key < 2147483579 by omega)
  clear he hs1 h1 hl hq el eq ept hpt hb1 hb2
  have V1 := Lib.hid (Blk.new w #[.int .i64 e, .int .i64 s] 25)
  have B1 := Lib.hid (bel_alloc1 w (.cells #[.int .i64 e, .int .i64 s] 25))
  go_enter Tryz.func37, Tryz.ntmps37
  go_wp2_with (first
    | (go_at_call 72; refine (valid_any _ _).mono ?_; rintro r u1 ⟨rfl, rfl⟩; rw [hk1.out])
    | (go_at_call 73; ((with_reducible refine (inRange_any e true _ HE.out).mono ?_); rintro r u1 ⟨rfl, rfl⟩))
    | (go_at_call 73; ((with_reducible refine (inRange_any s true _ HS.out).mono ?_); rintro r u1 ⟨rfl, rfl⟩))
    | (go_at_call 74; ((with_reducible refine (pow_is 4 s l _ HL (Lib.hid pe4)).mono ?_); rintro r u2 ⟨rfl, j2⟩; have V2 := V1.out.below j2 V1.out.lt; have q0 := V2.cell 0; have q1 := V2.cell 1; have B2 := Lib.hid (bel_trans B1.out j2); have L2 := V2.lt; clear j2))
    | (go_at_call 74; ((with_reducible refine (pow_is key (-e) q _ HQ (Lib.hid (pe_el hk1.out))).mono ?_); rintro r u3 ⟨rfl, j3⟩; have V3 := Lib.hid (V2.below j3 L2); have B3 := Lib.hid (bel_trans B2.out j3); clear j3 q0 q1 V2))
    | (go_at_call 75; ((with_reducible refine (mul_is l q pt _ HPT HEL.out HEQ.out).mono ?_); rintro r u4 ⟨rfl, j4⟩; have V4 := V3.out.below j4 V3.out.lt; have B4 := Lib.hid (bel_trans B3.out j4); clear j4)))
  refine wp_region_any (by kernel_rfl) ?_
  change wpAny _ _ _ _ _ _ _ (World.drew _)
  generalize hWD : World.drew u4 = W
  have VW := Lib.hid (show Blk W w.heap.size #[.int .i64 e, .int .i64 s] 25 by rw [← hWD]; exact V4)
  have BW := Lib.hid (show Below w.heap.size w W by rw [← hWD]; exact B4.out.drew)
  clear hWD V4 B4
  have hCD : ∀ u, Ext W u → Ext W u := fun u hu => hu
  refine region_U (D := Ext W) (Ext W) [6, 7] (Ext.refl W) ?_
  refine anyU_takeD (i := 0) (v := .pointer (some ⟨w.heap.size, 0, none⟩)) 48 rfl rfl (by kernel_rfl) (by kernel_rfl) (by kernel_rfl) (fun _ _ _ h => h) (by kernel_rfl) (Ext.stable _) hCD (yieldsU_val rfl (fun u hu => by go_simp)) ?_
  refine anyU_takeD (i := 1) (v := .int .i64 e) 49 rfl rfl (by kernel_rfl) (by kernel_rfl) (by kernel_rfl) (fun _ _ _ h => h) (by kernel_rfl) (Ext.stable _) hCD (yieldsU_val rfl (fun u hu => by have c := (VW.out.below hu VW.out.lt).cell 0; go_simp)) ?_
  refine anyU_takeD (i := 2) (v := .int .i64 pt) 50 rfl rfl (by kernel_rfl) (by kernel_rfl) (by kernel_rfl) (fun _ _ _ h => h) (by kernel_rfl) (Ext.stable _) hCD (yieldsU_val rfl (fun u hu => by rfl)) ?_
  refine anyU_takeD (i := 3) (v := .int .i64 key) 51 rfl rfl (by kernel_rfl) (by kernel_rfl) (by kernel_rfl) (fun _ _ _ h => h) (by kernel_rfl) (Ext.stable _) hCD (yieldsU_val rfl (fun u hu => by rfl)) ?_
  refine anyU_takeD (i := 4) (v := .slice p m c) 52 rfl rfl (by kernel_rfl) (by kernel_rfl) (by kernel_rfl) (fun _ _ _ h => h) (by kernel_rfl) (Ext.stable _) hCD (yieldsU_val rfl (fun u hu => by rfl)) ?_
  simp only [Act.put, List.setIfInBounds_toArray, List.set_cons_succ, List.set_cons_zero]
  refine anyU_takeD (i := 5) (v := .int .i64 h) 53 rfl rfl (by kernel_rfl) (by kernel_rfl) (by kernel_rfl) (fun _ _ _ h => h) (by kernel_rfl) (Ext.stable _) hCD (yieldsU_call rfl 76 _ _ rfl #[.int .i64 pt, .int .i64 key, .slice p m c] (by simp [Act.eval, Act.put]) (fun u => by go_simp) (fun u hu => challenge_any pt key p m c bs u HB1.out HB2.out hs (Lib.hid ((hz.out.below BW.out).below hu)) (Lib.hid ((hk.out.below BW.out).below hu)) h HCH)) ?_
  simp only [Act.put, List.setIfInBounds_toArray, List.set_cons_succ, List.set_cons_zero]
  refine anyU_tail 6 [7] rfl rfl (by decide) (by kernel_rfl) ?_
  intro u hu
  simp only [Act.put, List.filterMap_cons, List.filterMap_nil, List.getElem?_cons_succ, List.getElem?_cons_zero]
  have BU := Lib.hid (bel_trans BW.out hu)
  clear hu
  go_wp2_with fail
  go_ret
  exact ⟨rfl, BU.out⟩
end Go.Proofs.YtjdkdhpippapmaaGreatDoor
