/- The reference of layer 15. -/
import Derived.Test.YthhlpkppcbillaaGreatDoorRefZ
namespace Go.Proofs.YthhlpkppcbillaaGreatDoor
open Go.RowKit
set_option linter.unusedVariables false
set_option linter.unusedSimpArgs false

set_option maxHeartbeats 400000 in
theorem rsecret_is (n : Int) (v : Bool) (w : World) (hv : Hid (secB n = v)) : Calls Tryz.prog 19 #[.int .i64 n] w fun e w' => e = .returned (.bool v) ∧ w = w' := by
  have hv := hv.out
  subst hv
  unfold secB
  by_cases h1 : 1 ≤ n
  · go_enter Tryz.func19, Tryz.ntmps19
    go_wp2
    go_ret
    refine ⟨?_, rfl⟩
    simp [h1]
  · go_enter Tryz.func19, Tryz.ntmps19
    go_wp2
    go_ret
    have h2 : decide (1 ≤ n) = false := by simpa using h1
    rw [h2]
    exact ⟨rfl, rfl⟩
theorem rmodz_is (n r : Int) (w : World) (h : Hid (modQ n = r)) : Calls Tryz.prog 26 #[.int .i64 n] w fun e w' => e = .returned (.int .i64 r) ∧ w = w' := by
  rw [← h.out]; exact rmod_any n w
theorem rtimes_is (a b r : Int) (w : World) (h : Hid (tmsQ a b = r)) : Calls Tryz.prog 28 #[.int .i64 a, .int .i64 b] w fun e w' => e = .returned (.int .i64 r) ∧ w = w' := by
  rw [← h.out]; exact rtimes_any a b w
set_option maxHeartbeats 400000 in
theorem rbegin_no (n : Int) (w : World) (h : Hid (secB n = false)) : Calls Tryz.prog 7 #[.int .i64 n] w fun e w' => e = .returned (.tuple #[.int .i64 0, .int .i64 110]) ∧ w = w' := by
  go_enter Tryz.func7, Tryz.ntmps7
  go_wp2_with (go_at_call 19; refine (rsecret_is n false _ h).mono ?_; rintro e w' ⟨rfl, rfl⟩)
  go_ret2
  exact ⟨rfl, rfl⟩
set_option maxHeartbeats 400000 in
theorem rbegin_yes (n r : Int) (w : World) (h : Hid (secB n = true)) (hr : Hid (IsPw 4 n r)) : Calls Tryz.prog 7 #[.int .i64 n] w fun e w' => e = .returned (.tuple #[.int .i64 r, .int .i64 0]) ∧ w = w' := by
  go_enter Tryz.func7, Tryz.ntmps7
  go_wp2_with (first
    | (go_at_call 19; refine (rsecret_is n true _ h).mono ?_; rintro e w' ⟨rfl, rfl⟩)
    | (go_at_call 20; refine (rpow_is 4 n r _ hr (Lib.hid pe4)).mono ?_; rintro e w' ⟨rfl, rfl⟩))
  go_ret2
  exact ⟨rfl, rfl⟩
set_option maxHeartbeats 400000 in
theorem ranswer_no (x n k : Int) (w : World) (h : Hid ((secB x && secB n) = false)) : Calls Tryz.prog 11 #[.int .i64 x, .int .i64 n, .int .i64 k] w fun e w' => e = .returned (.tuple #[.int .i64 0, .int .i64 110]) ∧ w = w' := by
  cases h1 : secB x with
  | false =>
    have H1 := Lib.hid h1
    clear h1
    go_enter Tryz.func11, Tryz.ntmps11
    go_wp2_with (go_at_call 19; refine (rsecret_is x false _ H1).mono ?_; rintro e w' ⟨rfl, rfl⟩)
    go_ret2
    exact ⟨rfl, rfl⟩
  | true =>
    have H1 := Lib.hid h1
    have H2 := Lib.hid (show secB n = false by have := h.out; rw [h1] at this; exact this)
    clear h1
    go_enter Tryz.func11, Tryz.ntmps11
    go_wp2_with (first
      | (go_at_call 19; ((with_reducible refine (rsecret_is x true _ H1).mono ?_); rintro e w' ⟨rfl, rfl⟩))
      | (go_at_call 19; ((with_reducible refine (rsecret_is n false _ H2).mono ?_); rintro e w' ⟨rfl, rfl⟩)))
    go_ret2
    exact ⟨rfl, rfl⟩
theorem ret_pair {a b c : Int} (h : a = b) : Ending.returned (.tuple #[.int .i64 a, .int .i64 c]) = .returned (.tuple #[.int .i64 b, .int .i64 c]) := by rw [h]
set_option maxHeartbeats 400000 in
theorem ranswer_yes (x n k y s : Int) (w : World) (h1 : Hid (secB x = true)) (h2 : Hid (secB n = true)) (hy : Hid (tmsQ k x = y)) (hs : Hid ((n + y) % 1073741789 = s)) : Calls Tryz.prog 11 #[.int .i64 x, .int .i64 n, .int .i64 k] w fun e w' => e = .returned (.tuple #[.int .i64 s, .int .i64 0]) ∧ w = w' := by
  obtain ⟨n0, n1⟩ := secB_iff.1 h2.out
  have yb : 0 ≤ y ∧ y < 1073741789 := by rw [← hy.out]; unfold tmsQ; omega
  obtain ⟨y0, y1⟩ := yb
  go_enter Tryz.func11, Tryz.ntmps11
  go_wp2_with (first
    | (go_at_call 19; ((with_reducible refine (rsecret_is x true _ h1).mono ?_); rintro e w' ⟨rfl, rfl⟩))
    | (go_at_call 19; ((with_reducible refine (rsecret_is n true _ h2).mono ?_); rintro e w' ⟨rfl, rfl⟩))
    | (go_at_call 28; refine (rtimes_is k x y _ hy).mono ?_; rintro e w' ⟨rfl, rfl⟩))
  go_ret2
  exact ⟨ret_pair hs.out, rfl⟩
set_option maxHeartbeats 1000000 in
theorem rhash15_is (key r u v pt h : Int) (p : Option Addr) (m c : Nat) (bs : List Int) (w : World) (hkey : Hid (elB key = true)) (hr : Hid (elB r = true)) (hs : Hid (txOk bs)) (hz : Hid (SrcW w p m c bs)) (hp : Hid (IsBp key r u v pt)) (hh : Hid (IsCh pt key bs h)) :
    Calls Tryz.prog 25 #[.int .i64 key, .int .i64 r, .slice p m c, .int .i64 u, .int .i64 v] w fun e w' => e = .returned (.int .i64 h) ∧ Below w.heap.size w w' := by
  obtain ⟨x, hx⟩ := isPw 4 u
  obtain ⟨y, hy⟩ := isPw key v
  have ex := powZ_el elB_4 u
  have ey := powZ_el hkey.out v
  have h1 := hp.out.eq
  have pe := bpZ_el (key := key) (r := r) (u := u) (v := v) hkey.out hr.out
  rw [h1] at pe
  unfold bpZ at h1
  rw [hx.eq, hy.eq] at h1
  rw [hx.eq] at ex
  rw [hy.eq] at ey
  rw [mulZ_assoc hr.out ex ey] at h1
  obtain ⟨z, hz1⟩ := isMl x y
  have ez := mulZ_el ex ey
  rw [hz1.eq] at h1 ez
  have ke := elB_iff hkey.out
  have pe2 := elB_iff pe
  have HKB := Lib.hid (show 0 ≤ key ∧ key < 2147483579 by omega)
  have HPB := Lib.hid (show 0 ≤ pt ∧ pt < 2147483579 by omega)
  have HX := Lib.hid hx; have HY := Lib.hid hy; have HZ := Lib.hid hz1; have HP := Lib.hid (IsMl.mk h1); have HEX := Lib.hid ex; have HEY := Lib.hid ey; have HEZ := Lib.hid ez
  clear hx hy hz1 h1 ex ey ez pe pe2 ke
  go_enter Tryz.func25, Tryz.ntmps25
  go_wp2_with (first
    | (go_at_call 20; ((with_reducible refine (rpow_is 4 u x _ HX (Lib.hid pe4)).mono ?_); rintro e w' ⟨rfl, rfl⟩))
    | (go_at_call 20; ((with_reducible refine (rpow_is key v y _ HY (Lib.hid (pe_el hkey.out))).mono ?_); rintro e w' ⟨rfl, rfl⟩))
    | (go_at_call 45; ((with_reducible refine (rmul_is x y z _ HZ HEX.out HEY.out).mono ?_); rintro e w' ⟨rfl, rfl⟩))
    | (go_at_call 45; ((with_reducible refine (rmul_is r z pt _ HP hr.out HEZ.out).mono ?_); rintro e w' ⟨rfl, rfl⟩))
    | (go_at_call 46; refine (rchallenge_any pt key p m c bs _ HPB.out HKB.out hs hz h hh).mono ?_; rintro e w1 ⟨rfl, hb⟩))
  go_ret
  exact ⟨rfl, hb⟩
set_option maxRecDepth 100000 in
set_option maxHeartbeats 1000000 in
theorem rask_no0 (key r u v : Int) (p : Option Addr) (m c : Nat) (w : World) (hk1 : Hid (elB key = false)) : Calls Tryz.prog 9 #[.int .i64 key, .int .i64 r, .slice p m c, .int .i64 u, .int .i64 v] w fun e w' => e = .returned (.tuple #[.int .i64 0, .int .i64 90]) ∧ Below w.heap.size w w' := by
  go_enter Tryz.func9, Tryz.ntmps9
  go_wp2_with (first
    | (go_at_call 24; ((with_reducible refine (rvalid_is key false _ hk1).mono ?_); rintro e w' ⟨rfl, rfl⟩)))
  go_ret2
  exact ⟨rfl, Below.refl _ _⟩
set_option maxRecDepth 100000 in
set_option maxHeartbeats 1000000 in
theorem rask_no1 (key r u v : Int) (p : Option Addr) (m c : Nat) (w : World) (hk1 : Hid (elB key = true)) (hr1 : Hid (elB r = false)) : Calls Tryz.prog 9 #[.int .i64 key, .int .i64 r, .slice p m c, .int .i64 u, .int .i64 v] w fun e w' => e = .returned (.tuple #[.int .i64 0, .int .i64 90]) ∧ Below w.heap.size w w' := by
  go_enter Tryz.func9, Tryz.ntmps9
  go_wp2_with (first
    | (go_at_call 24; ((with_reducible refine (rvalid_is key true _ hk1).mono ?_); rintro e w' ⟨rfl, rfl⟩))
    | (go_at_call 24; ((with_reducible refine (rvalid_is r false _ hr1).mono ?_); rintro e w' ⟨rfl, rfl⟩)))
  go_ret2
  exact ⟨rfl, Below.refl _ _⟩
theorem rask_no (key r u v : Int) (p : Option Addr) (m c : Nat) (w : World) (h : Hid ((elB key && elB r) = false)) : Calls Tryz.prog 9 #[.int .i64 key, .int .i64 r, .slice p m c, .int .i64 u, .int .i64 v] w fun e w' => e = .returned (.tuple #[.int .i64 0, .int .i64 90]) ∧ Below w.heap.size w w' := by
  have h := h.out
  cases h1 : elB key with
  | false => exact rask_no0 key r u v p m c w (Lib.hid h1)
  | true =>
    rw [h1] at h
    exact rask_no1 key r u v p m c w (Lib.hid h1) (Lib.hid (show elB r = false from h))
set_option maxRecDepth 100000 in
set_option maxHeartbeats 1000000 in
theorem rfinish_no0 (key r u v s : Int) (p : Option Addr) (m c : Nat) (w : World) (hk1 : Hid (elB key = false)) : Calls Tryz.prog 13 #[.int .i64 key, .int .i64 r, .slice p m c, .int .i64 u, .int .i64 v, .int .i64 s] w fun e w' => e = .returned (.tuple #[.agg #[.int .i64 0, .int .i64 0], .int .i64 90]) ∧ Below w.heap.size w w' := by
  go_enter Tryz.func13, Tryz.ntmps13
  go_wp2_with (first
    | (go_at_call 24; ((with_reducible refine (rvalid_is key false _ hk1).mono ?_); rintro e w' ⟨rfl, rfl⟩)))
  refine bodyPost_ret (v := .tuple #[.agg #[.int .i64 0, .int .i64 0], .int .i64 90]) (by simp [results, Tryz.results13, go_sem]) rfl ⟨rfl, ?_⟩
  repeat refine Below.setCell ?_ (by simp) _
  exact bel_alloc1 w _
set_option maxRecDepth 100000 in
set_option maxHeartbeats 1000000 in
theorem rfinish_no1 (key r u v s : Int) (p : Option Addr) (m c : Nat) (w : World) (hk1 : Hid (elB key = true)) (hr1 : Hid (elB r = false)) : Calls Tryz.prog 13 #[.int .i64 key, .int .i64 r, .slice p m c, .int .i64 u, .int .i64 v, .int .i64 s] w fun e w' => e = .returned (.tuple #[.agg #[.int .i64 0, .int .i64 0], .int .i64 90]) ∧ Below w.heap.size w w' := by
  go_enter Tryz.func13, Tryz.ntmps13
  go_wp2_with (first
    | (go_at_call 24; ((with_reducible refine (rvalid_is key true _ hk1).mono ?_); rintro e w' ⟨rfl, rfl⟩))
    | (go_at_call 24; ((with_reducible refine (rvalid_is r false _ hr1).mono ?_); rintro e w' ⟨rfl, rfl⟩)))
  refine bodyPost_ret (v := .tuple #[.agg #[.int .i64 0, .int .i64 0], .int .i64 90]) (by simp [results, Tryz.results13, go_sem]) rfl ⟨rfl, ?_⟩
  repeat refine Below.setCell ?_ (by simp) _
  exact bel_alloc1 w _
theorem rfinish_no (key r u v s : Int) (p : Option Addr) (m c : Nat) (w : World) (h : Hid ((elB key && elB r) = false)) : Calls Tryz.prog 13 #[.int .i64 key, .int .i64 r, .slice p m c, .int .i64 u, .int .i64 v, .int .i64 s] w fun e w' => e = .returned (.tuple #[.agg #[.int .i64 0, .int .i64 0], .int .i64 90]) ∧ Below w.heap.size w w' := by
  have h := h.out
  cases h1 : elB key with
  | false => exact rfinish_no0 key r u v s p m c w (Lib.hid h1)
  | true =>
    rw [h1] at h
    exact rfinish_no1 key r u v s p m c w (Lib.hid h1) (Lib.hid (show elB r = false from h))
set_option maxRecDepth 100000 in
set_option maxHeartbeats 1000000 in
theorem rask_yes (key r u v pt h a mv : Int) (p : Option Addr) (m c : Nat) (bs : List Int) (w : World) (hkey : Hid (elB key = true)) (hr : Hid (elB r = true)) (hs : Hid (txOk bs)) (hz : Hid (SrcW w p m c bs)) (hp : Hid (IsBp key r u v pt)) (hh : Hid (IsCh pt key bs h)) (hmv : Hid (modQ v = mv)) (ha : Hid ((h + mv) % 1073741789 = a)) :
    Calls Tryz.prog 9 #[.int .i64 key, .int .i64 r, .slice p m c, .int .i64 u, .int .i64 v] w fun e w' => e = .returned (.tuple #[.int .i64 a, .int .i64 0]) ∧ Below w.heap.size w w' := by
  have m0 := modQ_rng v
  rw [hmv.out] at m0
  obtain ⟨m0, m1⟩ := m0
  obtain ⟨h0, h1⟩ := hh.out.rng
  go_enter Tryz.func9, Tryz.ntmps9
  go_wp2_with (first
    | (go_at_call 24; ((with_reducible refine (rvalid_is key true _ hkey).mono ?_); rintro e w' ⟨rfl, rfl⟩))
    | (go_at_call 24; ((with_reducible refine (rvalid_is r true _ hr).mono ?_); rintro e w' ⟨rfl, rfl⟩))
    | (go_at_call 25; refine (rhash15_is key r u v pt h p m c bs _ hkey hr hs hz hp hh).mono ?_; rintro e w1 ⟨rfl, hb⟩)
    | (go_at_call 26; refine (rmodz_is v mv _ hmv).mono ?_; rintro e w' ⟨rfl, rfl⟩))
  go_ret2
  exact ⟨ret_pair ha.out, hb⟩
set_option maxRecDepth 100000 in
set_option maxHeartbeats 4000000 in
theorem rfinish_bad (key r u v s pt h S ms mu : Int) (p : Option Addr) (m c : Nat) (bs : List Int) (w : World) (hkey : Hid (elB key = true)) (hr : Hid (elB r = true)) (hs : Hid (txOk bs)) (hz : Hid (SrcW w p m c bs)) (hp : Hid (IsBp key r u v pt)) (hh : Hid (IsCh pt key bs h)) (HMS : Hid (modQ s = ms)) (HMU : Hid (modQ u = mu)) (HS : Hid ((ms + mu) % 1073741789 = S)) (hv : Hid (IsVer key bs h S false)) :
    Calls Tryz.prog 13 #[.int .i64 key, .int .i64 r, .slice p m c, .int .i64 u, .int .i64 v, .int .i64 s] w fun e w' => e = .returned (.tuple #[.agg #[.int .i64 0, .int .i64 0], .int .i64 150]) ∧ Below w.heap.size w w' := by
  have ms0 := modQ_rng s
  rw [HMS.out] at ms0
  obtain ⟨ms0, ms1⟩ := ms0
  have mu0 := modQ_rng u
  rw [HMU.out] at mu0
  obtain ⟨mu0, mu1⟩ := mu0
  have A0 := Lib.hid (Blk.new w #[.int .i64 0, .int .i64 0] 31)
  have B0 := Lib.hid (bel_alloc1 w (.cells #[.int .i64 0, .int .i64 0] 31))
  go_enter Tryz.func13, Tryz.ntmps13
  go_upto_region 4 with (first
    | (go_at_call 24; ((with_reducible refine (rvalid_is key true _ hkey).mono ?_); rintro e w' ⟨rfl, rfl⟩))
    | (go_at_call 24; ((with_reducible refine (rvalid_is r true _ hr).mono ?_); rintro e w' ⟨rfl, rfl⟩))
    | (go_at_call 25; refine (rhash15_is key r u v pt h p m c bs _ hkey hr hs (Lib.hid (hz.out.below B0.out)) hp hh).mono ?_; rintro e w1 ⟨rfl, hb⟩; have A1 := Lib.hid (A0.out.below hb A0.out.lt); have B1 := Lib.hid (bel_trans B0.out hb); clear hb)
    | (go_at_call 26; ((with_reducible refine (rmodz_is s ms _ HMS).mono ?_); rintro e w' ⟨rfl, rfl⟩))
    | (go_at_call 26; ((with_reducible refine (rmodz_is u mu _ HMU).mono ?_); rintro e w' ⟨rfl, rfl⟩)))
  rw [HS.out]
  have X2 := Lib.hid (Blk.new w1 #[.int .i64 h, .int .i64 S] 31)
  have hb := bel_alloc1 w1 (.cells #[.int .i64 h, .int .i64 S] 31)
  have A2 := Lib.hid (A1.out.below hb A1.out.lt)
  have B2 := Lib.hid (bel_trans B1.out hb)
  clear hb A1 B1
  generalize World.alloc w1 _ = W2 at X2 A2 B2 ⊢
  generalize w1.heap.size = bx at X2 ⊢
  have q0 := X2.out.cell 0
  have q1 := X2.out.cell 1
  go_wp2_with (go_at_call 29; refine (rverify_is key h S p m c bs _ hs (Lib.hid (hz.out.below B2.out)) false hv).mono ?_; rintro e w4 ⟨rfl, hb⟩; have X4 := X2.out.below hb X2.out.lt; replace q0 := X4.cell 0; replace q1 := X4.cell 1; have A4 := A2.out.below hb A2.out.lt; have f0 := A4.frozen 0; have f1 := A4.frozen 1; have g0 := A4.cell 0; have g1 := A4.cell 1; have A4H := Lib.hid A4; have B4 := Lib.hid (bel_trans B2.out hb); clear hb A4 X4)
  have VV : Blk _ w.heap.size #[.int .i64 0, .int .i64 0] 31 := (A4H.out.set 0 (.int .i64 0)).set 1 (.int .i64 0)
  have c0 := VV.cell 0
  have c1 := VV.cell 1
  refine bodyPost_ret (v := .tuple #[.agg #[.int .i64 0, .int .i64 0], .int .i64 150]) (by simp only [results, Tryz.results13]; simp [go_sem, c0, c1]) rfl ⟨rfl, ?_⟩
  repeat refine Below.setCell ?_ (by simp) _
  exact B4.out
set_option maxRecDepth 100000 in
set_option maxHeartbeats 4000000 in
theorem rfinish_yes (key r u v s pt h S ms mu : Int) (p : Option Addr) (m c : Nat) (bs : List Int) (w : World) (hkey : Hid (elB key = true)) (hr : Hid (elB r = true)) (hs : Hid (txOk bs)) (hz : Hid (SrcW w p m c bs)) (hp : Hid (IsBp key r u v pt)) (hh : Hid (IsCh pt key bs h)) (HMS : Hid (modQ s = ms)) (HMU : Hid (modQ u = mu)) (HS : Hid ((ms + mu) % 1073741789 = S)) (hv : Hid (IsVer key bs h S true)) :
    Calls Tryz.prog 13 #[.int .i64 key, .int .i64 r, .slice p m c, .int .i64 u, .int .i64 v, .int .i64 s] w fun e w' => e = .returned (.tuple #[.agg #[.int .i64 h, .int .i64 S], .int .i64 0]) ∧ Below w.heap.size w w' := by
  have ms0 := modQ_rng s
  rw [HMS.out] at ms0
  obtain ⟨ms0, ms1⟩ := ms0
  have mu0 := modQ_rng u
  rw [HMU.out] at mu0
  obtain ⟨mu0, mu1⟩ := mu0
  have A0 := Lib.hid (Blk.new w #[.int .i64 0, .int .i64 0] 31)
  have B0 := Lib.hid (bel_alloc1 w (.cells #[.int .i64 0, .int .i64 0] 31))
  go_enter Tryz.func13, Tryz.ntmps13
  go_upto_region 4 with (first
    | (go_at_call 24; ((with_reducible refine (rvalid_is key true _ hkey).mono ?_); rintro e w' ⟨rfl, rfl⟩))
    | (go_at_call 24; ((with_reducible refine (rvalid_is r true _ hr).mono ?_); rintro e w' ⟨rfl, rfl⟩))
    | (go_at_call 25; refine (rhash15_is key r u v pt h p m c bs _ hkey hr hs (Lib.hid (hz.out.below B0.out)) hp hh).mono ?_; rintro e w1 ⟨rfl, hb⟩; have A1 := Lib.hid (A0.out.below hb A0.out.lt); have B1 := Lib.hid (bel_trans B0.out hb); clear hb)
    | (go_at_call 26; ((with_reducible refine (rmodz_is s ms _ HMS).mono ?_); rintro e w' ⟨rfl, rfl⟩))
    | (go_at_call 26; ((with_reducible refine (rmodz_is u mu _ HMU).mono ?_); rintro e w' ⟨rfl, rfl⟩)))
  rw [HS.out]
  have X2 := Lib.hid (Blk.new w1 #[.int .i64 h, .int .i64 S] 31)
  have hb := bel_alloc1 w1 (.cells #[.int .i64 h, .int .i64 S] 31)
  have A2 := Lib.hid (A1.out.below hb A1.out.lt)
  have B2 := Lib.hid (bel_trans B1.out hb)
  clear hb A1 B1
  generalize World.alloc w1 _ = W2 at X2 A2 B2 ⊢
  generalize w1.heap.size = bx at X2 ⊢
  have q0 := X2.out.cell 0
  have q1 := X2.out.cell 1
  go_wp2_with (go_at_call 29; refine (rverify_is key h S p m c bs _ hs (Lib.hid (hz.out.below B2.out)) true hv).mono ?_; rintro e w4 ⟨rfl, hb⟩; have X4 := X2.out.below hb X2.out.lt; replace q0 := X4.cell 0; replace q1 := X4.cell 1; have A4 := A2.out.below hb A2.out.lt; have f0 := A4.frozen 0; have f1 := A4.frozen 1; have g0 := A4.cell 0; have g1 := A4.cell 1; have A4H := Lib.hid A4; have B4 := Lib.hid (bel_trans B2.out hb); clear hb A4 X4)
  have VV : Blk _ w.heap.size #[.int .i64 h, .int .i64 S] 31 := (A4H.out.set 0 (.int .i64 h)).set 1 (.int .i64 S)
  have c0 := VV.cell 0
  have c1 := VV.cell 1
  refine bodyPost_ret (v := .tuple #[.agg #[.int .i64 h, .int .i64 S], .int .i64 0]) (by simp only [results, Tryz.results13]; simp [go_sem, c0, c1]) rfl ⟨rfl, ?_⟩
  repeat refine Below.setCell ?_ (by simp) _
  exact B4.out
set_option maxRecDepth 100000 in
set_option maxHeartbeats 4000000 in
theorem rlink_bad (key r c s e S : Int) (p : Option Addr) (m cp : Nat) (bs : List Int) (w : World) (hbad : Hid ((elB key && elB r) = false)) :
    Calls Tryz.prog 15 #[.int .i64 key, .int .i64 r, .int .i64 c, .int .i64 s, .slice p m cp, .agg #[.int .i64 e, .int .i64 S]] w fun q w' => q = .returned (.tuple #[.int .i64 0, .int .i64 0, .bool false]) ∧ Below w.heap.size w w' := by
  have V0 := Blk.new w #[.int .i64 e, .int .i64 S] 31
  have q0 := V0.cell 0
  have q1 := V0.cell 1
  have V0H := Lib.hid V0
  have B0 := Lib.hid (bel_alloc1 w (.cells #[.int .i64 e, .int .i64 S] 31))
  clear V0
  go_enter Tryz.func15, Tryz.ntmps15
  go_wp2_with (first
    | (go_at_call 33; refine (tr_bad key r c s _ hbad).mono ?_; rintro q w' ⟨rfl, rfl⟩))
  exact bodyPost_ret (v := .tuple #[.int .i64 0, .int .i64 0, .bool false]) (by simp [results, Tryz.results15, go_sem]) rfl ⟨rfl, B0.out⟩
set_option maxRecDepth 100000 in
set_option maxHeartbeats 4000000 in
theorem rlink_differ (key r c s e S : Int) (p : Option Addr) (m cp : Nat) (bs : List Int) (w : World) (hkey : Hid (elB key = true)) (hr : Hid (elB r = true)) (x z : Int) (hsd : Hid (IsSides key r c s x z)) (hxe : Hid ((x == z) = false)) :
    Calls Tryz.prog 15 #[.int .i64 key, .int .i64 r, .int .i64 c, .int .i64 s, .slice p m cp, .agg #[.int .i64 e, .int .i64 S]] w fun q w' => q = .returned (.tuple #[.int .i64 0, .int .i64 0, .bool false]) ∧ Below w.heap.size w w' := by
  have V0 := Blk.new w #[.int .i64 e, .int .i64 S] 31
  have q0 := V0.cell 0
  have q1 := V0.cell 1
  have V0H := Lib.hid V0
  have B0 := Lib.hid (bel_alloc1 w (.cells #[.int .i64 e, .int .i64 S] 31))
  clear V0
  go_enter Tryz.func15, Tryz.ntmps15
  go_wp2_with (first
    | (go_at_call 33; refine (tr_good key r c s x z _ hkey hr hsd).mono ?_; rintro q w' ⟨rfl, rfl⟩; rw [hxe.out]))
  exact bodyPost_ret (v := .tuple #[.int .i64 0, .int .i64 0, .bool false]) (by simp [results, Tryz.results15, go_sem]) rfl ⟨rfl, B0.out⟩
set_option maxRecDepth 100000 in
set_option maxHeartbeats 4000000 in
theorem rlink_wrong (key r c s e S : Int) (p : Option Addr) (m cp : Nat) (bs : List Int) (w : World) (hkey : Hid (elB key = true)) (hr : Hid (elB r = true)) (x z : Int) (hsd : Hid (IsSides key r c s x z)) (hxe : Hid ((x == z) = true)) (hs : Hid (txOk bs)) (hz : Hid (SrcW w p m cp bs)) (hv : Hid (IsVer key bs e S false)) :
    Calls Tryz.prog 15 #[.int .i64 key, .int .i64 r, .int .i64 c, .int .i64 s, .slice p m cp, .agg #[.int .i64 e, .int .i64 S]] w fun q w' => q = .returned (.tuple #[.int .i64 0, .int .i64 0, .bool false]) ∧ Below w.heap.size w w' := by
  have V0 := Blk.new w #[.int .i64 e, .int .i64 S] 31
  have q0 := V0.cell 0
  have q1 := V0.cell 1
  have V0H := Lib.hid V0
  have B0 := Lib.hid (bel_alloc1 w (.cells #[.int .i64 e, .int .i64 S] 31))
  clear V0
  go_enter Tryz.func15, Tryz.ntmps15
  go_wp2_with (first
    | (go_at_call 33; refine (tr_good key r c s x z _ hkey hr hsd).mono ?_; rintro q w' ⟨rfl, rfl⟩; rw [hxe.out])
    | (go_at_call 29; refine (rverify_is key e S p m cp bs _ hs (Lib.hid (hz.out.below B0.out)) false hv).mono ?_; rintro q w1 ⟨rfl, hb⟩; have V1 := Lib.hid (V0H.out.below hb V0H.out.lt); have B1 := Lib.hid (bel_trans B0.out hb); clear hb))
  exact bodyPost_ret (v := .tuple #[.int .i64 0, .int .i64 0, .bool false]) (by simp [results, Tryz.results15, go_sem]) rfl ⟨rfl, B1.out⟩
set_option maxRecDepth 100000 in
set_option maxHeartbeats 4000000 in
theorem rlink_yes (key r c s e S : Int) (p : Option Addr) (m cp : Nat) (bs : List Int) (w : World) (hkey : Hid (elB key = true)) (hr : Hid (elB r = true)) (x z : Int) (hsd : Hid (IsSides key r c s x z)) (hxe : Hid ((x == z) = true)) (hs : Hid (txOk bs)) (hz : Hid (SrcW w p m cp bs)) (hv : Hid (IsVer key bs e S true)) (U V ms mc : Int) (HMS : Hid (modQ s = ms)) (HMC : Hid (modQ c = mc)) (HU : Hid (modQ (S - ms) = U)) (HVV : Hid (modQ (mc - e) = V)) :
    Calls Tryz.prog 15 #[.int .i64 key, .int .i64 r, .int .i64 c, .int .i64 s, .slice p m cp, .agg #[.int .i64 e, .int .i64 S]] w fun q w' => q = .returned (.tuple #[.int .i64 U, .int .i64 V, .bool true]) ∧ Below w.heap.size w w' := by
  obtain ⟨_, ⟨e0, e1⟩, ⟨S0, S1⟩, _⟩ := hv.out.parts
  have ms0 := modQ_rng s
  rw [HMS.out] at ms0
  obtain ⟨ms0, ms1⟩ := ms0
  have mc0 := modQ_rng c
  rw [HMC.out] at mc0
  obtain ⟨mc0, mc1⟩ := mc0
  have V0 := Blk.new w #[.int .i64 e, .int .i64 S] 31
  have q0 := V0.cell 0
  have q1 := V0.cell 1
  have V0H := Lib.hid V0
  have B0 := Lib.hid (bel_alloc1 w (.cells #[.int .i64 e, .int .i64 S] 31))
  clear V0
  go_enter Tryz.func15, Tryz.ntmps15
  go_wp2_with (first
    | (go_at_call 33; refine (tr_good key r c s x z _ hkey hr hsd).mono ?_; rintro q w' ⟨rfl, rfl⟩; rw [hxe.out])
    | (go_at_call 29; refine (rverify_is key e S p m cp bs _ hs (Lib.hid (hz.out.below B0.out)) true hv).mono ?_; rintro q w1 ⟨rfl, hb⟩; have V1 := Lib.hid (V0H.out.below hb V0H.out.lt); have B1 := Lib.hid (bel_trans B0.out hb); clear hb))
  refine wp_region_any (by kernel_rfl) ?_
  change wpAny _ _ _ _ _ _ _ (World.drew _)
  generalize hWD : World.drew w1 = W
  have VW := Lib.hid (show Blk W w.heap.size #[.int .i64 e, .int .i64 S] 31 by rw [← hWD]; exact V1.out)
  have BW := Lib.hid (show Below w.heap.size w W by rw [← hWD]; exact B1.out.drew)
  clear hWD V1 B1
  have hCD : ∀ u, Ext W u → Ext W u := fun u hu => hu
  have qm : ∀ (a r : Int) (u : World), Hid (modQ a = r) → Calls Tryz.prog 26 #[.int .i64 a] u fun e u' => e = .returned (.int .i64 r) ∧ Below u.heap.size u u' := fun a r u h => (rmodz_is a r u h).mono fun e u' ⟨h1, h2⟩ => ⟨h1, h2 ▸ Below.refl _ _⟩
  have QM := Lib.hid qm
  clear qm q0 q1
  refine region_U (D := Ext W) (Ext W) [12, 13, 14] (Ext.refl W) ?_
  refine anyU_takeD (i := 0) (v := .pointer (some ⟨w.heap.size, 1, none⟩)) 28 rfl rfl (by kernel_rfl) (by kernel_rfl) (by kernel_rfl) (fun _ _ _ h => h) (by kernel_rfl) (Ext.stable _) hCD (yieldsU_val rfl (fun u hu => by go_simp)) ?_
  refine anyU_takeD (i := 1) (v := .int .i64 S) 29 rfl rfl (by kernel_rfl) (by kernel_rfl) (by kernel_rfl) (fun _ _ _ h => h) (by kernel_rfl) (Ext.stable _) hCD (yieldsU_val rfl (fun u hu => by have cc := (VW.out.below hu VW.out.lt).cell 1; go_simp)) ?_
  refine anyU_takeD (i := 2) (v := .int .i64 s) 30 rfl rfl (by kernel_rfl) (by kernel_rfl) (by kernel_rfl) (fun _ _ _ h => h) (by kernel_rfl) (Ext.stable _) hCD (yieldsU_val rfl (fun u hu => by rfl)) ?_
  refine anyU_takeD (i := 3) (v := .int .i64 ms) 31 rfl rfl (by kernel_rfl) (by kernel_rfl) (by kernel_rfl) (fun _ _ _ h => h) (by kernel_rfl) (Ext.stable _) hCD (yieldsU_call rfl 26 _ _ rfl #[.int .i64 s] (by simp [Act.eval, Act.put]) (fun u => by go_simp) (fun u hu => QM.out s ms u HMS)) ?_
  simp only [Act.put, List.setIfInBounds_toArray, List.set_cons_succ, List.set_cons_zero]
  refine anyU_takeD (i := 4) (v := .int .i64 (S - ms)) 32 rfl rfl (by kernel_rfl) (by kernel_rfl) (by kernel_rfl) (fun _ _ _ h => h) (by kernel_rfl) (Ext.stable _) hCD (yieldsU_val rfl (fun u hu => by first | (go_simp; done) | (go_simp; rw [IntKind.wrap_i64]; omega))) ?_
  refine anyU_takeD (i := 5) (v := .int .i64 U) 33 rfl rfl (by kernel_rfl) (by kernel_rfl) (by kernel_rfl) (fun _ _ _ h => h) (by kernel_rfl) (Ext.stable _) hCD (yieldsU_call rfl 26 _ _ rfl #[.int .i64 (S - ms)] (by simp [Act.eval, Act.put]) (fun u => by go_simp) (fun u hu => QM.out (S - ms) U u HU)) ?_
  simp only [Act.put, List.setIfInBounds_toArray, List.set_cons_succ, List.set_cons_zero]
  refine anyU_takeD (i := 6) (v := .int .i64 c) 34 rfl rfl (by kernel_rfl) (by kernel_rfl) (by kernel_rfl) (fun _ _ _ h => h) (by kernel_rfl) (Ext.stable _) hCD (yieldsU_val rfl (fun u hu => by rfl)) ?_
  refine anyU_takeD (i := 7) (v := .int .i64 mc) 35 rfl rfl (by kernel_rfl) (by kernel_rfl) (by kernel_rfl) (fun _ _ _ h => h) (by kernel_rfl) (Ext.stable _) hCD (yieldsU_call rfl 26 _ _ rfl #[.int .i64 c] (by simp [Act.eval, Act.put]) (fun u => by go_simp) (fun u hu => QM.out c mc u HMC)) ?_
  refine anyU_takeD (i := 8) (v := .pointer (some ⟨w.heap.size, 0, none⟩)) 36 rfl rfl (by kernel_rfl) (by kernel_rfl) (by kernel_rfl) (fun _ _ _ h => h) (by kernel_rfl) (Ext.stable _) hCD (yieldsU_val rfl (fun u hu => by go_simp)) ?_
  refine anyU_takeD (i := 9) (v := .int .i64 e) 37 rfl rfl (by kernel_rfl) (by kernel_rfl) (by kernel_rfl) (fun _ _ _ h => h) (by kernel_rfl) (Ext.stable _) hCD (yieldsU_val rfl (fun u hu => by have cc := (VW.out.below hu VW.out.lt).cell 0; go_simp)) ?_
  simp only [Act.put, List.setIfInBounds_toArray, List.set_cons_succ, List.set_cons_zero]
  refine anyU_takeD (i := 10) (v := .int .i64 (mc - e)) 38 rfl rfl (by kernel_rfl) (by kernel_rfl) (by kernel_rfl) (fun _ _ _ h => h) (by kernel_rfl) (Ext.stable _) hCD (yieldsU_val rfl (fun u hu => by first | (go_simp; done) | (go_simp; rw [IntKind.wrap_i64]; omega))) ?_
  refine anyU_takeD (i := 11) (v := .int .i64 V) 39 rfl rfl (by kernel_rfl) (by kernel_rfl) (by kernel_rfl) (fun _ _ _ h => h) (by kernel_rfl) (Ext.stable _) hCD (yieldsU_call rfl 26 _ _ rfl #[.int .i64 (mc - e)] (by simp [Act.eval, Act.put]) (fun u => by go_simp) (fun u hu => QM.out (mc - e) V u HVV)) ?_
  simp only [Act.put, List.setIfInBounds_toArray, List.set_cons_succ, List.set_cons_zero]
  refine anyU_tail 12 [13, 14] rfl rfl (by decide) (by kernel_rfl) ?_
  intro u1 hu
  simp only [Act.put, List.filterMap_cons, List.filterMap_nil, List.getElem?_cons_succ, List.getElem?_cons_zero]
  have BU := Lib.hid (bel_trans BW.out hu)
  clear hu
  go_wp2_with fail
  exact bodyPost_ret (v := .tuple #[.int .i64 U, .int .i64 V, .bool true]) (by simp [results, Tryz.results15, go_sem]) rfl ⟨rfl, BU.out⟩
end Go.Proofs.YthhlpkppcbillaaGreatDoor
