/- The reference of layer 15. -/
import Derived.Test.YtjdkdhpippapmaaGreatDoorRefZC
namespace Go.Proofs.YtjdkdhpippapmaaGreatDoor
open Go.RowKit
set_option linter.unusedVariables false
set_option linter.unusedSimpArgs false

theorem rmodz_is (n r : Int) (w : World) (h : Hid (modQ n = r)) : Calls Tryz.prog 71 #[.int .i64 n] w fun e w' => e = .returned (.int .i64 r) ∧ w = w' := by
  rw [← h.out]; exact rmod_any n w
theorem rtimes_is (a b r : Int) (w : World) (h : Hid (tmsQ a b = r)) : Calls Tryz.prog 95 #[.int .i64 a, .int .i64 b] w fun e w' => e = .returned (.int .i64 r) ∧ w = w' := by
  rw [← h.out]; exact rtimes_any a b w
theorem ret_pair {a b c : Int} (h : a = b) : Ending.returned (.tuple #[.int .i64 a, .int .i64 c]) = .returned (.tuple #[.int .i64 b, .int .i64 c]) := by rw [h]
set_option maxHeartbeats 1000000 in
theorem rhash15_is (key r u v pt h : Int) (p : Option Addr) (m c : Nat) (bs : List Int) (w : World) (hkey : Hid (elB key = true)) (hr : Hid (elB r = true)) (hs : Hid (txOk bs)) (hz : Hid (SrcW w p m c bs)) (hp : Hid (IsBp key r u v pt)) (hh : Hid (IsCh pt key bs h)) :
    Calls Tryz.prog 70 #[.int .i64 key, .int .i64 r, .slice p m c, .int .i64 u, .int .i64 v] w fun e w' => e = .returned (.int .i64 h) ∧ Below w.heap.size w w' := by
  obtain ⟨x, hx⟩ := isPw 4 u
  obtain ⟨y, hy⟩ := isPw key v
  have ex := powZ_el elB_4 u
  have ey := powZ_el hkey.out v
  have h1 := hp.out.eq
  have pe := bpZ_el (key := key) (r := r) (u := u) (v := v) hkey.out hr.out
  rw [h1] at pe
  unfold bpZ at h1
  rw [hx.eq, hy.eq] at h1
  rw [hx.eq] at ex
  rw [hy.eq] at ey
  rw [mulZ_assoc hr.out ex ey] at h1
  obtain ⟨z, hz1⟩ := isMl x y
  have ez := mulZ_el ex ey
  rw [hz1.eq] at h1 ez
  have ke := elB_iff hkey.out
  have pe2 := elB_iff pe
  have HKB := Lib.hid (show 0 ≤ key ∧ key < 2147483579 by omega)
  have HPB := Lib.hid (show 0 ≤ pt ∧ pt < 2147483579 by omega)
  have HX := Lib.hid hx; have HY := Lib.hid hy; have HZ := Lib.hid hz1; have HP := Lib.hid (IsMl.mk h1); have HEX := Lib.hid ex; have HEY := Lib.hid ey; have HEZ := Lib.hid ez
  clear hx hy hz1 h1 ex ey ez pe pe2 ke
  go_enter Tryz.func70, Tryz.ntmps70
  go_wp2_with (first
    | (go_at_call 90; ((with_reducible refine (rpow_is 4 u x _ HX (Lib.hid pe4)).mono ?_); rintro e w' ⟨rfl, rfl⟩))
    | (go_at_call 90; ((with_reducible refine (rpow_is key v y _ HY (Lib.hid (pe_el hkey.out))).mono ?_); rintro e w' ⟨rfl, rfl⟩))
    | (go_at_call 91; ((with_reducible refine (rmul_is x y z _ HZ HEX.out HEY.out).mono ?_); rintro e w' ⟨rfl, rfl⟩))
    | (go_at_call 91; ((with_reducible refine (rmul_is r z pt _ HP hr.out HEZ.out).mono ?_); rintro e w' ⟨rfl, rfl⟩))
    | (go_at_call 54; refine (rchallenge_any pt key p m c bs _ HPB.out HKB.out hs hz h hh).mono ?_; rintro e w1 ⟨rfl, hb⟩))
  go_ret
  exact ⟨rfl, hb⟩
set_option maxRecDepth 100000 in
set_option maxHeartbeats 1000000 in
theorem rask_no0 (key r u v : Int) (p : Option Addr) (m c : Nat) (w : World) (hk1 : Hid (elB key = false)) : Calls Tryz.prog 34 #[.int .i64 key, .int .i64 r, .slice p m c, .int .i64 u, .int .i64 v] w fun e w' => e = .returned (.tuple #[.int .i64 0, .int .i64 90]) ∧ Below w.heap.size w w' := by
  go_enter Tryz.func34, Tryz.ntmps34
  go_wp2_with (first
    | (go_at_call 53; ((with_reducible refine (rvalid_is key false _ hk1).mono ?_); rintro e w' ⟨rfl, rfl⟩)))
  go_ret2
  exact ⟨rfl, Below.refl _ _⟩
set_option maxRecDepth 100000 in
set_option maxHeartbeats 1000000 in
theorem rask_no1 (key r u v : Int) (p : Option Addr) (m c : Nat) (w : World) (hk1 : Hid (elB key = true)) (hr1 : Hid (elB r = false)) : Calls Tryz.prog 34 #[.int .i64 key, .int .i64 r, .slice p m c, .int .i64 u, .int .i64 v] w fun e w' => e = .returned (.tuple #[.int .i64 0, .int .i64 90]) ∧ Below w.heap.size w w' := by
  go_enter Tryz.func34, Tryz.ntmps34
  go_wp2_with (first
    | (go_at_call 53; ((with_reducible refine (rvalid_is key true _ hk1).mono ?_); rintro e w' ⟨rfl, rfl⟩))
    | (go_at_call 53; ((with_reducible refine (rvalid_is r false _ hr1).mono ?_); rintro e w' ⟨rfl, rfl⟩)))
  go_ret2
  exact ⟨rfl, Below.refl _ _⟩
theorem rask_no (key r u v : Int) (p : Option Addr) (m c : Nat) (w : World) (h : Hid ((elB key && elB r) = false)) : Calls Tryz.prog 34 #[.int .i64 key, .int .i64 r, .slice p m c, .int .i64 u, .int .i64 v] w fun e w' => e = .returned (.tuple #[.int .i64 0, .int .i64 90]) ∧ Below w.heap.size w w' := by
  have h := h.out
  cases h1 : elB key with
  | false => exact rask_no0 key r u v p m c w (Lib.hid h1)
  | true =>
    rw [h1] at h
    exact rask_no1 key r u v p m c w (Lib.hid h1) (Lib.hid (show elB r = false from h))
set_option maxRecDepth 100000 in
set_option maxHeartbeats 1000000 in
theorem rfinish_no0 (key r u v s : Int) (p : Option Addr) (m c : Nat) (w : World) (hk1 : Hid (elB key = false)) : Calls Tryz.prog 36 #[.int .i64 key, .int .i64 r, .slice p m c, .int .i64 u, .int .i64 v, .int .i64 s] w fun e w' => e = .returned (.tuple #[.agg #[.int .i64 0, .int .i64 0], .int .i64 90]) ∧ Below w.heap.size w w' := by
  go_enter Tryz.func36, Tryz.ntmps36
  go_wp2_with (first
    | (go_at_call 53; ((with_reducible refine (rvalid_is key false _ hk1).mono ?_); rintro e w' ⟨rfl, rfl⟩)))
  refine bodyPost_ret (v := .tuple #[.agg #[.int .i64 0, .int .i64 0], .int .i64 90]) (by simp [results, Tryz.results36, go_sem]) rfl ⟨rfl, ?_⟩
  repeat refine Below.setCell ?_ (by simp) _
  exact bel_alloc1 w _
set_option maxRecDepth 100000 in
set_option maxHeartbeats 1000000 in
theorem rfinish_no1 (key r u v s : Int) (p : Option Addr) (m c : Nat) (w : World) (hk1 : Hid (elB key = true)) (hr1 : Hid (elB r = false)) : Calls Tryz.prog 36 #[.int .i64 key, .int .i64 r, .slice p m c, .int .i64 u, .int .i64 v, .int .i64 s] w fun e w' => e = .returned (.tuple #[.agg #[.int .i64 0, .int .i64 0], .int .i64 90]) ∧ Below w.heap.size w w' := by
  go_enter Tryz.func36, Tryz.ntmps36
  go_wp2_with (first
    | (go_at_call 53; ((with_reducible refine (rvalid_is key true _ hk1).mono ?_); rintro e w' ⟨rfl, rfl⟩))
    | (go_at_call 53; ((with_reducible refine (rvalid_is r false _ hr1).mono ?_); rintro e w' ⟨rfl, rfl⟩)))
  refine bodyPost_ret (v := .tuple #[.agg #[.int .i64 0, .int .i64 0], .int .i64 90]) (by simp [results, Tryz.results36, go_sem]) rfl ⟨rfl, ?_⟩
  repeat refine Below.setCell ?_ (by simp) _
  exact bel_alloc1 w _
theorem rfinish_no (key r u v s : Int) (p : Option Addr) (m c : Nat) (w : World) (h : Hid ((elB key && elB r) = false)) : Calls Tryz.prog 36 #[.int .i64 key, .int .i64 r, .slice p m c, .int .i64 u, .int .i64 v, .int .i64 s] w fun e w' => e = .returned (.tuple #[.agg #[.int .i64 0, .int .i64 0], .int .i64 90]) ∧ Below w.heap.size w w' := by
  have h := h.out
  cases h1 : elB key with
  | false => exact rfinish_no0 key r u v s p m c w (Lib.hid h1)
  | true =>
    rw [h1] at h
    exact rfinish_no1 key r u v s p m c w (Lib.hid h1) (Lib.hid (show elB r = false from h))
set_option maxRecDepth 100000 in
set_option maxHeartbeats 1000000 in
theorem rask_yes (key r u v pt h a mv : Int) (p : Option Addr) (m c : Nat) (bs : List Int) (w : World) (hkey : Hid (elB key = true)) (hr : Hid (elB r = true)) (hs : Hid (txOk bs)) (hz : Hid (SrcW w p m c bs)) (hp : Hid (IsBp key r u v pt)) (hh : Hid (IsCh pt key bs h)) (hmv : Hid (modQ v = mv)) (ha : Hid ((h + mv) % 1073741789 = a)) :
    Calls Tryz.prog 34 #[.int .i64 key, .int .i64 r, .slice p m c, .int .i64 u, .int .i64 v] w fun e w' => e = .returned (.tuple #[.int .i64 a, .int .i64 0]) ∧ Below w.heap.size w w' := by
  have m0 := modQ_rng v
  rw [hmv.out] at m0
  obtain ⟨m0, m1⟩ := m0
  obtain ⟨h0, h1⟩ := hh.out.rng
  go_enter Tryz.func34, Tryz.ntmps34
  go_wp2_with (first
    | (go_at_call 53; ((with_reducible refine (rvalid_is key true _ hkey).mono ?_); rintro e w' ⟨rfl, rfl⟩))
    | (go_at_call 53; ((with_reducible refine (rvalid_is r true _ hr).mono ?_); rintro e w' ⟨rfl, rfl⟩))
    | (go_at_call 70; refine (rhash15_is key r u v pt h p m c bs _ hkey hr hs hz hp hh).mono ?_; rintro e w1 ⟨rfl, hb⟩)
    | (go_at_call 71; refine (rmodz_is v mv _ hmv).mono ?_; rintro e w' ⟨rfl, rfl⟩))
  go_ret2
  exact ⟨ret_pair ha.out, hb⟩
set_option maxRecDepth 100000 in
set_option maxHeartbeats 4000000 in
theorem rfinish_bad (key r u v s pt h S ms mu : Int) (p : Option Addr) (m c : Nat) (bs : List Int) (w : World) (hkey : Hid (elB key = true)) (hr : Hid (elB r = true)) (hs : Hid (txOk bs)) (hz : Hid (SrcW w p m c bs)) (hp : Hid (IsBp key r u v pt)) (hh : Hid (IsCh pt key bs h)) (HMS : Hid (modQ s = ms)) (HMU : Hid (modQ u = mu)) (HS : Hid ((ms + mu) % 1073741789 = S)) (hv : Hid (IsVer key bs h S false)) :
    Calls Tryz.prog 36 #[.int .i64 key, .int .i64 r, .slice p m c, .int .i64 u, .int .i64 v, .int .i64 s] w fun e w' => e = .returned (.tuple #[.agg #[.int .i64 0, .int .i64 0], .int .i64 150]) ∧ Below w.heap.size w w' := by
  have ms0 := modQ_rng s
  rw [HMS.out] at ms0
  obtain ⟨ms0, ms1⟩ := ms0
  have mu0 := modQ_rng u
  rw [HMU.out] at mu0
  obtain ⟨mu0, mu1⟩ := mu0
  have A0 := Lib.hid (Blk.new w #[.int .i64 0, .int .i64 0] 25)
  have B0 := Lib.hid (bel_alloc1 w (.cells #[.int .i64 0, .int .i64 0] 25))
  go_enter Tryz.func36, Tryz.ntmps36
  go_upto_region 4 with (first
    | (go_at_call 53; ((with_reducible refine (rvalid_is key true _ hkey).mono ?_); rintro e w' ⟨rfl, rfl⟩))
    | (go_at_call 53; ((with_reducible refine (rvalid_is r true _ hr).mono ?_); rintro e w' ⟨rfl, rfl⟩))
    | (go_at_call 70; refine (rhash15_is key r u v pt h p m c bs _ hkey hr hs (Lib.hid (hz.out.below B0.out)) hp hh).mono ?_; rintro e w1 ⟨rfl, hb⟩; have A1 := Lib.hid (A0.out.below hb A0.out.lt); have B1 := Lib.hid (bel_trans B0.out hb); clear hb)
    | (go_at_call 71; ((with_reducible refine (rmodz_is s ms _ HMS).mono ?_); rintro e w' ⟨rfl, rfl⟩))
    | (go_at_call 71; ((with_reducible refine (rmodz_is u mu _ HMU).mono ?_); rintro e w' ⟨rfl, rfl⟩)))
  rw [HS.out]
  have X2 := Lib.hid (Blk.new w1 #[.int .i64 h, .int .i64 S] 25)
  have hb := bel_alloc1 w1 (.cells #[.int .i64 h, .int .i64 S] 25)
  have A2 := Lib.hid (A1.out.below hb A1.out.lt)
  have B2 := Lib.hid (bel_trans B1.out hb)
  clear hb A1 B1
  generalize World.alloc w1 _ = W2 at X2 A2 B2 ⊢
  generalize w1.heap.size = bx at X2 ⊢
  have q0 := X2.out.cell 0
  have q1 := X2.out.cell 1
  go_wp2_with (go_at_call 24; refine (rverify_is key h S p m c bs _ hs (Lib.hid (hz.out.below B2.out)) false hv).mono ?_; rintro e w4 ⟨rfl, hb⟩; have X4 := X2.out.below hb X2.out.lt; replace q0 := X4.cell 0; replace q1 := X4.cell 1; have A4 := A2.out.below hb A2.out.lt; have f0 := A4.frozen 0; have f1 := A4.frozen 1; have g0 := A4.cell 0; have g1 := A4.cell 1; have A4H := Lib.hid A4; have B4 := Lib.hid (bel_trans B2.out hb); clear hb A4 X4)
  have VV : Blk _ w.heap.size #[.int .i64 0, .int .i64 0] 25 := (A4H.out.set 0 (.int .i64 0)).set 1 (.int .i64 0)
  have c0 := VV.cell 0
  have c1 := VV.cell 1
  refine bodyPost_ret (v := .tuple #[.agg #[.int .i64 0, .int .i64 0], .int .i64 150]) (by simp only [results, Tryz.results36]; simp [go_sem, c0, c1]) rfl ⟨rfl, ?_⟩
  repeat refine Below.setCell ?_ (by simp) _
  exact B4.out
set_option maxRecDepth 100000 in
set_option maxHeartbeats 4000000 in
theorem rfinish_yes (key r u v s pt h S ms mu : Int) (p : Option Addr) (m c : Nat) (bs : List Int) (w : World) (hkey : Hid (elB key = true)) (hr : Hid (elB r = true)) (hs : Hid (txOk bs)) (hz : Hid (SrcW w p m c bs)) (hp : Hid (IsBp key r u v pt)) (hh : Hid (IsCh pt key bs h)) (HMS : Hid (modQ s = ms)) (HMU : Hid (modQ u = mu)) (HS : Hid ((ms + mu) % 1073741789 = S)) (hv : Hid (IsVer key bs h S true)) :
    Calls Tryz.prog 36 #[.int .i64 key, .int .i64 r, .slice p m c, .int .i64 u, .int .i64 v, .int .i64 s] w fun e w' => e = .returned (.tuple #[.agg #[.int .i64 h, .int .i64 S], .int .i64 0]) ∧ Below w.heap.size w w' := by
  have ms0 := modQ_rng s
  rw [HMS.out] at ms0
  obtain ⟨ms0, ms1⟩ := ms0
  have mu0 := modQ_rng u
  rw [HMU.out] at mu0
  obtain ⟨mu0, mu1⟩ := mu0
  have A0 := Lib.hid (Blk.new w #[.int .i64 0, .int .i64 0] 25)
  have B0 := Lib.hid (bel_alloc1 w (.cells #[.int .i64 0, .int .i64 0] 25))
  go_enter Tryz.func36, Tryz.ntmps36
  go_upto_region 4 with (first
    | (go_at_call 53; ((with_reducible refine (rvalid_is key true _ hkey).mono ?_); rintro e w' ⟨rfl, rfl⟩))
    | (go_at_call 53; ((with_reducible refine (rvalid_is r true _ hr).mono ?_); rintro e w' ⟨rfl, rfl⟩))
    | (go_at_call 70; refine (rhash15_is key r u v pt h p m c bs _ hkey hr hs (Lib.hid (hz.out.below B0.out)) hp hh).mono ?_; rintro e w1 ⟨rfl, hb⟩; have A1 := Lib.hid (A0.out.below hb A0.out.lt); have B1 := Lib.hid (bel_trans B0.out hb); clear hb)
    | (go_at_call 71; ((with_reducible refine (rmodz_is s ms _ HMS).mono ?_); rintro e w' ⟨rfl, rfl⟩))
    | (go_at_call 71; ((with_reducible refine (rmodz_is u mu _ HMU).mono ?_); rintro e w' ⟨rfl, rfl⟩)))
  rw [HS.out]
  have X2 := Lib.hid (Blk.new w1 #[.int .i64 h, .int .i64 S] 25)
  have hb := bel_alloc1 w1 (.cells #[.int .i64 h, .int .i64 S] 25)
  have A2 := Lib.hid (A1.out.below hb A1.out.lt)
  have B2 := Lib.hid (bel_trans B1.out hb)
  clear hb A1 B1
  generalize World.alloc w1 _ = W2 at X2 A2 B2 ⊢
  generalize w1.heap.size = bx at X2 ⊢
  have q0 := X2.out.cell 0
  have q1 := X2.out.cell 1
  go_wp2_with (go_at_call 24; refine (rverify_is key h S p m c bs _ hs (Lib.hid (hz.out.below B2.out)) true hv).mono ?_; rintro e w4 ⟨rfl, hb⟩; have X4 := X2.out.below hb X2.out.lt; replace q0 := X4.cell 0; replace q1 := X4.cell 1; have A4 := A2.out.below hb A2.out.lt; have f0 := A4.frozen 0; have f1 := A4.frozen 1; have g0 := A4.cell 0; have g1 := A4.cell 1; have A4H := Lib.hid A4; have B4 := Lib.hid (bel_trans B2.out hb); clear hb A4 X4)
  have VV : Blk _ w.heap.size #[.int .i64 h, .int .i64 S] 25 := (A4H.out.set 0 (.int .i64 h)).set 1 (.int .i64 S)
  have c0 := VV.cell 0
  have c1 := VV.cell 1
  refine bodyPost_ret (v := .tuple #[.agg #[.int .i64 h, .int .i64 S], .int .i64 0]) (by simp only [results, Tryz.results36]; simp [go_sem, c0, c1]) rfl ⟨rfl, ?_⟩
  repeat refine Below.setCell ?_ (by simp) _
  exact B4.out
end Go.Proofs.YtjdkdhpippapmaaGreatDoor
