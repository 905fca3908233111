/- The reference's Before, Used and Has. -/
import Derived.Test.YtcedmiojmepioaaGreatDoorLstZ
namespace Go.Proofs.YtcedmiojmepioaaGreatDoor
open Go.RowKit
set_option linter.unusedVariables false
set_option linter.unusedSimpArgs false

theorem ltD_at : ∀ (xs ys : List Int) (k : Nat), k < xs.length → k < ys.length → (∀ j, j < k → xs.getD j 0 = ys.getD j 0) → xs.getD k 0 ≠ ys.getD k 0 → ltD xs ys = decide (xs.getD k 0 < ys.getD k 0)
  | [], _, k, h, _, _, _ => by simp at h
  | _ :: _, [], k, _, h, _, _ => by simp at h
  | a :: ar, b :: br, 0, _, _, _, hne => by
    have hne' : a ≠ b := hne
    have e : cmpZ (a :: ar) (b :: br) = if a < b then -1 else if b < a then 1 else cmpZ ar br := rfl
    show decide (cmpZ (a :: ar) (b :: br) < 0) = decide (a < b)
    rw [e]
    rcases (by omega : a < b ∨ b < a) with h | h
    · simp [h]
    · simp [h, show ¬ a < b by omega]
  | a :: ar, b :: br, k + 1, h1, h2, hp, hne => by
    have h0 : a = b := hp 0 (by omega)
    have ih := ltD_at ar br k (by simpa using h1) (by simpa using h2) (fun j hj => hp (j + 1) (by omega)) hne
    have e : cmpZ (a :: ar) (b :: br) = if a < b then -1 else if b < a then 1 else cmpZ ar br := rfl
    show decide (cmpZ (a :: ar) (b :: br) < 0) = decide (ar.getD k 0 < br.getD k 0)
    rw [e, h0]
    simp only [Int.lt_irrefl, if_false]
    exact ih
set_option maxRecDepth 100000 in
set_option maxHeartbeats 4000000 in
theorem rbefore_is (xs ys : List Int) (w : World) (lx : Hid (xs.length = 32)) (ly : Hid (ys.length = 32)) :
    Calls Tryz.prog 35 #[.agg (bv xs).toArray, .agg (bv ys).toArray] w fun e w' => e = .returned (.bool (ltD xs ys)) ∧ Below w.heap.size w w' := by
  have X0 := Lib.hid ((Dg.box w lx.out).alloc (.cells (bv ys).toArray 25))
  have Y0 := Lib.hid (show Dg ((w.alloc (.cells (bv xs).toArray 25)).alloc (.cells (bv ys).toArray 25)) (w.heap.size + 1) ys by have := Dg.box (w.alloc (.cells (bv xs).toArray 25)) ly.out; simpa using this)
  have B0 := Lib.hid (show Below w.heap.size w ((w.alloc (.cells (bv xs).toArray 25)).alloc (.cells (bv ys).toArray 25)) from (bel_alloc1 w _).alloc (by simp) _)
  go_enter Tryz.func35, Tryz.ntmps35
  go_upto_region 2 with fail
  go_loopw [5] (fun i wr => ∃ k : Nat, k ≤ 32 ∧ i = .int .i64 k ∧ (∀ j, j < k → xs.getD j 0 = ys.getD j 0) ∧ Hid (Below w.heap.size w wr) ∧ Hid (Dg wr w.heap.size xs) ∧ Hid (Dg wr (w.heap.size + 1) ys)) (fun i _ => 32 - (intOf i).toNat)
  case atStart => exact ⟨0, by omega, rfl, fun j h => by omega, B0, X0, Y0⟩
  case round =>
    clear X0 Y0 B0
    obtain ⟨k, hk, rfl, hpre, HB, X0, Y0⟩ := hrel
    by_cases hlt : k < 32
    · have t1 : (k : Int) < 32 := by omega
      have h0 : ¬ ((k : Int) < 0) := by omega
      have HK := Lib.hid (show k < xs.length by rw [lx.out]; exact hlt)
      have HKy := Lib.hid (show k < ys.length by rw [ly.out]; exact hlt)
      have HP := Lib.hid hpre
      clear hpre
      obtain ⟨x, hx⟩ : ∃ x, xs.getD k 0 = x := ⟨_, rfl⟩
      obtain ⟨y, hy⟩ : ∃ y, ys.getD k 0 = y := ⟨_, rfl⟩
      have Hx := Lib.hid hx
      have Hy := Lib.hid hy
      clear hx hy
      go_upto_region 4 with fail
      refine wp_region_any (by kernel_rfl) ?_
      change wpAny _ _ _ _ _ _ _ (World.drew _)
      generalize hWD : World.drew _ = W
      have B1 := Lib.hid (show Below w.heap.size w W by rw [← hWD]; exact HB.out.drew)
      have X1 := Lib.hid (show Dg W w.heap.size xs by rw [← hWD]; exact X0.out)
      have Y1 := Lib.hid (show Dg W (w.heap.size + 1) ys by rw [← hWD]; exact Y0.out)
      clear hWD
      have hCD : ∀ u, Ext W u → Ext W u := fun u hu => hu
      refine region_U (D := Ext W) (Ext W) [6] (Ext.refl W) ?_
      refine anyU_takeD (i := 0) (v := .int .i64 (k : Int)) 10 rfl rfl (by kernel_rfl) (by kernel_rfl) (by kernel_rfl) (fun _ _ _ h => h) (by kernel_rfl) (Ext.stable _) hCD (yieldsU_val rfl (fun u hu => by go_simp)) ?_
      refine anyU_takeD (i := 1) (v := .pointer (some ⟨w.heap.size, k, none⟩)) 11 rfl rfl (by kernel_rfl) (by kernel_rfl) (by kernel_rfl) (fun _ _ _ h => h) (by kernel_rfl) (Ext.stable _) hCD (yieldsU_val rfl (fun u hu => by go_simp)) ?_
      refine anyU_takeD (i := 2) (v := .int .u8 x) 12 rfl rfl (by kernel_rfl) (by kernel_rfl) (by kernel_rfl) (fun _ _ _ h => h) (by kernel_rfl) (Ext.stable _) hCD (yieldsU_val rfl (fun u hu => by have cb := (X1.out.bel hu).bytes k HK.out; rw [Nat.zero_add] at cb; rw [Hx.out] at cb; go_simp)) ?_
      refine anyU_takeD (i := 3) (v := .int .i64 (k : Int)) 13 rfl rfl (by kernel_rfl) (by kernel_rfl) (by kernel_rfl) (fun _ _ _ h => h) (by kernel_rfl) (Ext.stable _) hCD (yieldsU_val rfl (fun u hu => by go_simp)) ?_
      refine anyU_takeD (i := 4) (v := .pointer (some ⟨w.heap.size + 1, k, none⟩)) 14 rfl rfl (by kernel_rfl) (by kernel_rfl) (by kernel_rfl) (fun _ _ _ h => h) (by kernel_rfl) (Ext.stable _) hCD (yieldsU_val rfl (fun u hu => by go_simp)) ?_
      refine anyU_takeD (i := 5) (v := .int .u8 y) 15 rfl rfl (by kernel_rfl) (by kernel_rfl) (by kernel_rfl) (fun _ _ _ h => h) (by kernel_rfl) (Ext.stable _) hCD (yieldsU_val rfl (fun u hu => by have cb := (Y1.out.bel hu).bytes k HKy.out; rw [Nat.zero_add] at cb; rw [Hy.out] at cb; go_simp)) ?_
      simp only [Act.put, List.setIfInBounds_toArray, List.set_cons_succ, List.set_cons_zero]
      refine anyU_tail 6 [] rfl rfl (by decide) (by kernel_rfl) ?_
      intro u3 hu3
      simp only [Act.put, List.filterMap_cons, List.filterMap_nil, List.getElem?_cons_succ, List.getElem?_cons_zero]
      have B2 := Lib.hid (bel_trans B1.out hu3)
      have X2 := Lib.hid (X1.out.bel hu3)
      have Y2 := Lib.hid (Y1.out.bel hu3)
      clear hu3 X1 Y1 B1
      by_cases hxy : x = y
      case pos =>
        have t2 : (x != y) = false := by simp [hxy]
        go_wp2_with fail
        go_roundw
        case rel =>
          refine ⟨k + 1, by omega, by simp, fun j hj => ?_, B2, X2, Y2⟩
          rcases Nat.lt_or_ge j k with h | h
          · exact HP.out j h
          · obtain rfl : j = k := by omega
            rw [Hx.out, Hy.out, hxy]
        case measure => simp [intOf]; omega
      case neg =>
        have t2 : (x != y) = true := by simp [hxy]
        go_upto_region 5 with fail
        refine wp_region_any (by kernel_rfl) ?_
        change wpAny _ _ _ _ _ _ _ (World.drew _)
        generalize hWD : World.drew _ = W2
        have B3 := Lib.hid (show Below w.heap.size w W2 by rw [← hWD]; exact B2.out.drew)
        have X3 := Lib.hid (show Dg W2 w.heap.size xs by rw [← hWD]; exact X2.out)
        have Y3 := Lib.hid (show Dg W2 (w.heap.size + 1) ys by rw [← hWD]; exact Y2.out)
        clear hWD
        have hCD : ∀ u, Ext W2 u → Ext W2 u := fun u hu => hu
        refine region_U (D := Ext W2) (Ext W2) [7] (Ext.refl W2) ?_
        refine anyU_takeD (i := 0) (v := .int .i64 (k : Int)) 17 rfl rfl (by kernel_rfl) (by kernel_rfl) (by kernel_rfl) (fun _ _ _ h => h) (by kernel_rfl) (Ext.stable _) hCD (yieldsU_val rfl (fun u hu => by go_simp)) ?_
        refine anyU_takeD (i := 1) (v := .pointer (some ⟨w.heap.size, k, none⟩)) 18 rfl rfl (by kernel_rfl) (by kernel_rfl) (by kernel_rfl) (fun _ _ _ h => h) (by kernel_rfl) (Ext.stable _) hCD (yieldsU_val rfl (fun u hu => by go_simp)) ?_
        refine anyU_takeD (i := 2) (v := .int .u8 x) 19 rfl rfl (by kernel_rfl) (by kernel_rfl) (by kernel_rfl) (fun _ _ _ h => h) (by kernel_rfl) (Ext.stable _) hCD (yieldsU_val rfl (fun u hu => by have cb := (X3.out.bel hu).bytes k HK.out; rw [Nat.zero_add] at cb; rw [Hx.out] at cb; go_simp)) ?_
        refine anyU_takeD (i := 3) (v := .int .i64 (k : Int)) 20 rfl rfl (by kernel_rfl) (by kernel_rfl) (by kernel_rfl) (fun _ _ _ h => h) (by kernel_rfl) (Ext.stable _) hCD (yieldsU_val rfl (fun u hu => by go_simp)) ?_
        refine anyU_takeD (i := 4) (v := .pointer (some ⟨w.heap.size + 1, k, none⟩)) 21 rfl rfl (by kernel_rfl) (by kernel_rfl) (by kernel_rfl) (fun _ _ _ h => h) (by kernel_rfl) (Ext.stable _) hCD (yieldsU_val rfl (fun u hu => by go_simp)) ?_
        refine anyU_takeD (i := 5) (v := .int .u8 y) 22 rfl rfl (by kernel_rfl) (by kernel_rfl) (by kernel_rfl) (fun _ _ _ h => h) (by kernel_rfl) (Ext.stable _) hCD (yieldsU_val rfl (fun u hu => by have cb := (Y3.out.bel hu).bytes k HKy.out; rw [Nat.zero_add] at cb; rw [Hy.out] at cb; go_simp)) ?_
        simp only [Act.put, List.setIfInBounds_toArray, List.set_cons_succ, List.set_cons_zero]
        refine anyU_takeD (i := 6) (v := .bool (decide (x < y))) 23 rfl rfl (by kernel_rfl) (by kernel_rfl) (by kernel_rfl) (fun _ _ _ h => h) (by kernel_rfl) (Ext.stable _) hCD (yieldsU_val rfl (fun u hu => by go_simp)) ?_
        refine anyU_tail 7 [] rfl rfl (by decide) (by kernel_rfl) ?_
        intro u5 hu5
        simp only [Act.put, List.filterMap_cons, List.filterMap_nil, List.getElem?_cons_succ, List.getElem?_cons_zero]
        have B4 := Lib.hid (bel_trans B3.out hu5)
        clear hu5
        have hlt2 : ltD xs ys = decide (x < y) := by
          have := ltD_at xs ys k HK.out HKy.out HP.out (by rw [Hx.out, Hy.out]; exact hxy)
          rw [Hx.out, Hy.out] at this
          exact this
        go_wp2_with fail
        go_ret
        exact ⟨rfl, B4.out⟩
    · obtain rfl : k = 32 := by omega
      obtain rfl : xs = ys := same32 lx.out ly.out fun j hj => hpre j hj
      have t1 : ¬ ((32 : Int) < 32) := by omega
      go_wp2_with fail
      go_ret
      exact ⟨by rw [ltD_irrefl]; rfl, HB.out⟩
set_option maxRecDepth 100000 in
set_option maxHeartbeats 4000000 in
theorem rused_is (l : List (List Int)) (p : Option Addr) (n c : Nat) (v : Bool) (w : World) (hd : Hid (Dgs l)) (hz : Hid (SrcL w p n c l)) (hn : n ≤ 4000) (hv : Hid (v = true ↔ adjOK l)) :
    Calls Tryz.prog 18 #[.slice p n c] w fun e w' => e = .returned (.bool v) ∧ Below w.heap.size w w' := by
  have hnl := Lib.hid hz.out.1
  go_enter Tryz.func18, Tryz.ntmps18
  go_upto_region 2 with fail
  go_loopw [3] (fun y wr => ∃ k : Nat, 1 ≤ k ∧ (k ≤ n ∨ k = 1) ∧ y = .int .i64 k ∧ (∀ j, j + 1 < k → j + 1 < n → ltD (l.getD j []) (l.getD (j + 1) []) = true) ∧ Hid (Below w.heap.size w wr)) (fun y _ => n + 1 - (intOf y).toNat)
  case atStart => exact ⟨1, by omega, .inr rfl, rfl, fun j h _ => by omega, Lib.hid (Below.refl _ w)⟩
  case round =>
    obtain ⟨k, hk1, hkn, rfl, hadj, HB⟩ := hrel
    by_cases hkl : k < n
    · have t1 : (k : Int) < n := by omega
      obtain ⟨j, rfl⟩ : ∃ j, k = j + 1 := ⟨k - 1, by omega⟩
      obtain ⟨b, off, rfl, hlt, hb⟩ := hz.out.pos (by omega)
      have J1 := Lib.hid (show j < l.length by rw [← hnl.out]; omega)
      have J2 := Lib.hid (show j + 1 < l.length by rw [← hnl.out]; omega)
      have ADJ := Lib.hid hadj
      have LT := Lib.hid hlt
      have HBY := Lib.hid hb
      clear hadj hlt hb
      have ej : ((j + 1 : Nat) : Int) = (j : Int) + 1 := by omega
      have h1 : (j : Int) < (n : Int) := by omega
      have h2 : (j : Int) + 1 < (n : Int) := by omega
      have h3 : ¬ ((j : Int) + 1 < 0) := by omega
      obtain ⟨xj, hxj⟩ : ∃ x, l.getD j [] = x := ⟨_, rfl⟩
      obtain ⟨yj, hyj⟩ : ∃ x, l.getD (j + 1) [] = x := ⟨_, rfl⟩
      have LXj := Lib.hid (show xj.length = 32 by rw [← hxj]; exact (hd.out.get J1.out).1)
      have RXj := Lib.hid (show ∀ z ∈ xj, 0 ≤ z ∧ z ≤ 255 by rw [← hxj]; exact (hd.out.get J1.out).2)
      have LYj := Lib.hid (show yj.length = 32 by rw [← hyj]; exact (hd.out.get J2.out).1)
      have RYj := Lib.hid (show ∀ z ∈ yj, 0 ≤ z ∧ z ≤ 255 by rw [← hyj]; exact (hd.out.get J2.out).2)
      have HXJ := Lib.hid hxj
      have HYJ := Lib.hid hyj
      clear hxj hyj
      obtain ⟨vv, hvv⟩ : ∃ v, ltD xj yj = v := ⟨_, rfl⟩
      have HVV := Lib.hid hvv
      clear hvv
      go_upto_region 4 with fail
      rw [ej]
      refine wp_region_any (by kernel_rfl) ?_
      change wpAny _ _ _ _ _ _ _ (World.drew _)
      generalize hWD : World.drew _ = W
      have B1 := Lib.hid (show Below w.heap.size w W by rw [← hWD]; exact HB.out.drew)
      have Z1 := Lib.hid (show BytesAt W b off l.flatten by rw [← hWD]; exact HBY.out.below HB.out.drew LT.out)
      have lt1 := Lib.hid (show b < W.heap.size from Nat.lt_of_lt_of_le LT.out B1.out.size)
      clear hWD
      have hCD : ∀ u, Ext W u → Ext W u := fun u hu => hu
      refine region_U (D := Ext W) (Ext W) [10] (Ext.refl W) ?_
      refine anyU_takeD (i := 0) (v := .slice (some ⟨b, off, none⟩) n c) 10 rfl rfl (by kernel_rfl) (by kernel_rfl) (by kernel_rfl) (fun _ _ _ h => h) (by kernel_rfl) (Ext.stable _) hCD (yieldsU_val rfl (fun u hu => by go_simp)) ?_
      refine anyU_takeD (i := 1) (v := .int .i64 ((j : Int) + 1)) 11 rfl rfl (by kernel_rfl) (by kernel_rfl) (by kernel_rfl) (fun _ _ _ h => h) (by kernel_rfl) (Ext.stable _) hCD (yieldsU_val rfl (fun u hu => by go_simp)) ?_
      refine anyU_takeD (i := 2) (v := .int .i64 (j : Int)) 12 rfl rfl (by kernel_rfl) (by kernel_rfl) (by kernel_rfl) (fun _ _ _ h => h) (by kernel_rfl) (Ext.stable _) hCD (yieldsU_val rfl (fun u hu => by go_simp; rw [IntKind.wrap_i64]; omega)) ?_
      refine anyU_takeD (i := 3) (v := .pointer (some ⟨b, off + j * 32, none⟩)) 13 rfl rfl (by kernel_rfl) (by kernel_rfl) (by kernel_rfl) (fun _ _ _ h => h) (by kernel_rfl) (Ext.stable _) hCD (yieldsU_val rfl (fun u hu => by go_simp)) ?_
      refine anyU_takeD (i := 4) (v := .agg (bv xj).toArray) 14 rfl rfl (by kernel_rfl) (by kernel_rfl) (by kernel_rfl) (fun _ _ _ h => h) (by kernel_rfl) (Ext.stable _) hCD (yieldsU_of_C (yields_loadM (by rfl) (.tmp 13) rfl b (off + j * 32) rfl xj LXj.out (fun u hu => by rw [← HXJ.out]; exact flat_at hd.out (Z1.out.below hu lt1.out) J1.out))) ?_
      simp only [Act.put, List.setIfInBounds_toArray, List.set_cons_succ, List.set_cons_zero]
      refine anyU_takeD (i := 5) (v := .slice (some ⟨b, off, none⟩) n c) 15 rfl rfl (by kernel_rfl) (by kernel_rfl) (by kernel_rfl) (fun _ _ _ h => h) (by kernel_rfl) (Ext.stable _) hCD (yieldsU_val rfl (fun u hu => by go_simp)) ?_
      refine anyU_takeD (i := 6) (v := .int .i64 ((j : Int) + 1)) 16 rfl rfl (by kernel_rfl) (by kernel_rfl) (by kernel_rfl) (fun _ _ _ h => h) (by kernel_rfl) (Ext.stable _) hCD (yieldsU_val rfl (fun u hu => by go_simp)) ?_
      refine anyU_takeD (i := 7) (v := .pointer (some ⟨b, off + (j + 1) * 32, none⟩)) 17 rfl rfl (by kernel_rfl) (by kernel_rfl) (by kernel_rfl) (fun _ _ _ h => h) (by kernel_rfl) (Ext.stable _) hCD (yieldsU_val rfl (fun u hu => by go_simp)) ?_
      refine anyU_takeD (i := 8) (v := .agg (bv yj).toArray) 18 rfl rfl (by kernel_rfl) (by kernel_rfl) (by kernel_rfl) (fun _ _ _ h => h) (by kernel_rfl) (Ext.stable _) hCD (yieldsU_of_C (yields_loadM (by rfl) (.tmp 17) rfl b (off + (j + 1) * 32) rfl yj LYj.out (fun u hu => by rw [← HYJ.out]; exact flat_at hd.out (Z1.out.below hu lt1.out) J2.out))) ?_
      simp only [Act.put, List.setIfInBounds_toArray, List.set_cons_succ, List.set_cons_zero]
      refine anyU_takeD (i := 9) (v := .bool vv) 19 rfl rfl (by kernel_rfl) (by kernel_rfl) (by kernel_rfl) (fun _ _ _ h => h) (by kernel_rfl) (Ext.stable _) hCD (yieldsU_call rfl 35 _ _ rfl #[.agg (bv xj).toArray, .agg (bv yj).toArray] (by simp [Act.eval, Act.put]) (fun u => by go_simp) (fun u hu => by have h := rbefore_is xj yj u LXj LYj; rw [HVV.out] at h; exact h)) ?_
      refine anyU_tail 10 [] rfl rfl (by decide) (by kernel_rfl) ?_
      intro u3 hu3
      simp only [Act.put, List.filterMap_cons, List.filterMap_nil, List.getElem?_cons_succ, List.getElem?_cons_zero]
      have B3 := Lib.hid (bel_trans B1.out hu3)
      clear hu3
      cases vv with
      | false =>
        obtain rfl : v = false := by
          cases v with
          | false => rfl
          | true =>
            have h := (hv.out.1 rfl) j J2.out
            rw [HXJ.out, HYJ.out, HVV.out] at h; cases h
        go_wp2_with fail
        go_ret
        exact ⟨rfl, B3.out⟩
      | true =>
        go_wp2_with fail
        go_roundw
        case rel =>
          refine ⟨j + 1 + 1, by omega, .inl (by omega), by simp, fun q h1 h2 => ?_, B3⟩
          rcases Nat.lt_or_ge (q + 1) (j + 1) with hq | hq
          · exact ADJ.out q hq h2
          · obtain rfl : q = j := by omega
            rw [HXJ.out, HYJ.out]; exact HVV.out
        case measure => simp [intOf]; omega
    · have t1 : ¬ ((k : Int) < n) := by omega
      have hadj' : adjOK l := fun j hj => hadj j (by have := hnl.out; omega) (by rw [hnl.out]; exact hj)
      obtain rfl : v = true := hv.out.2 hadj'
      go_wp2_with fail
      go_ret
      exact ⟨rfl, HB.out⟩
set_option maxRecDepth 100000 in
set_option maxHeartbeats 4000000 in
theorem rhas_is (l : List (List Int)) (d : List Int) (p : Option Addr) (n c : Nat) (v : Bool) (w : World) (hd : Hid (Dgs l)) (hz : Hid (SrcL w p n c l)) (hn : n ≤ 4000) (ld : Hid (d.length = 32)) (hv : Hid (hasD l d = v)) :
    Calls Tryz.prog 19 #[.slice p n c, .agg (bv d).toArray] w fun e w' => e = .returned (.bool v) ∧ Below w.heap.size w w' := by
  have hnl := Lib.hid hz.out.1
  have D0 := Lib.hid (Dg.box w ld.out)
  have B0 := Lib.hid (bel_alloc1 w (.cells (bv d).toArray 25))
  go_enter Tryz.func19, Tryz.ntmps19
  go_upto_region 2 with fail
  go_loopw [5] (fun y wr => ∃ k : Nat, k ≤ n ∧ y = .int .i64 k ∧ (∀ j, j < k → l.getD j [] ≠ d) ∧ Hid (Below w.heap.size w wr) ∧ Hid (Dg wr w.heap.size d)) (fun y _ => n + 1 - (intOf y).toNat)
  case atStart => exact ⟨0, by omega, rfl, fun j h => by omega, B0, D0⟩
  case round =>
    clear B0 D0
    obtain ⟨k, hk, rfl, hne, HB, DB⟩ := hrel
    by_cases hkl : k < n
    · have t1 : (k : Int) < n := by omega
      have h0 : ¬ ((k : Int) < 0) := by omega
      obtain ⟨b, off, rfl, hlt, hb⟩ := hz.out.pos (by omega)
      have J1 := Lib.hid (show k < l.length by rw [← hnl.out]; omega)
      have NE := Lib.hid hne
      have LT := Lib.hid hlt
      have HBY := Lib.hid hb
      clear hne hlt hb
      obtain ⟨xj, hxj⟩ : ∃ x, l.getD k [] = x := ⟨_, rfl⟩
      have LXj := Lib.hid (show xj.length = 32 by rw [← hxj]; exact (hd.out.get J1.out).1)
      have HXJ := Lib.hid hxj
      clear hxj
      have EQ := eqDig_any xj d LXj.out ld.out
      go_upto_region 4 with fail
      refine wp_region_any (by kernel_rfl) ?_
      change wpAny _ _ _ _ _ _ _ (World.drew _)
      generalize hWD : World.drew _ = W
      have B1 := Lib.hid (show Below w.heap.size w W by rw [← hWD]; exact HB.out.drew)
      have D1 := Lib.hid (show Dg W w.heap.size d by rw [← hWD]; exact DB.out)
      have Z1 := Lib.hid (show BytesAt W b off l.flatten by rw [← hWD]; exact HBY.out.below HB.out.drew LT.out)
      have lt1 := Lib.hid (show b < W.heap.size from Nat.lt_of_lt_of_le LT.out B1.out.size)
      clear hWD
      have hCD : ∀ u, Ext W u → Ext W u := fun u hu => hu
      refine region_U (D := Ext W) (Ext W) [5] (Ext.refl W) ?_
      refine anyU_takeD (i := 0) (v := .slice (some ⟨b, off, none⟩) n c) 12 rfl rfl (by kernel_rfl) (by kernel_rfl) (by kernel_rfl) (fun _ _ _ h => h) (by kernel_rfl) (Ext.stable _) hCD (yieldsU_val rfl (fun u hu => by go_simp)) ?_
      refine anyU_takeD (i := 1) (v := .int .i64 (k : Int)) 13 rfl rfl (by kernel_rfl) (by kernel_rfl) (by kernel_rfl) (fun _ _ _ h => h) (by kernel_rfl) (Ext.stable _) hCD (yieldsU_val rfl (fun u hu => by go_simp)) ?_
      refine anyU_takeD (i := 2) (v := .pointer (some ⟨b, off + k * 32, none⟩)) 14 rfl rfl (by kernel_rfl) (by kernel_rfl) (by kernel_rfl) (fun _ _ _ h => h) (by kernel_rfl) (Ext.stable _) hCD (yieldsU_val rfl (fun u hu => by go_simp)) ?_
      refine anyU_takeD (i := 3) (v := .agg (bv xj).toArray) 15 rfl rfl (by kernel_rfl) (by kernel_rfl) (by kernel_rfl) (fun _ _ _ h => h) (by kernel_rfl) (Ext.stable _) hCD (yieldsU_of_C (yields_loadM (by rfl) (.tmp 14) rfl b (off + k * 32) rfl xj LXj.out (fun u hu => by rw [← HXJ.out]; exact flat_at hd.out (Z1.out.below hu lt1.out) J1.out))) ?_
      refine anyU_takeD (i := 4) (v := .agg (bv d).toArray) 16 rfl rfl (by kernel_rfl) (by kernel_rfl) (by kernel_rfl) (fun _ _ _ h => h) (by kernel_rfl) (Ext.stable _) hCD (yieldsU_of_C (yields_loadD (by rfl) (.tmp 3) rfl w.heap.size rfl d ld.out (fun u hu => D1.out.bel hu))) ?_
      simp only [Act.put, List.setIfInBounds_toArray, List.set_cons_succ, List.set_cons_zero]
      refine anyU_tail 5 [] rfl rfl (by decide) (by kernel_rfl) ?_
      intro u3 hu3
      simp only [Act.put, List.filterMap_cons, List.filterMap_nil, List.getElem?_cons_succ, List.getElem?_cons_zero]
      have B3 := Lib.hid (bel_trans B1.out hu3)
      have D3 := Lib.hid (D1.out.bel hu3)
      clear hu3 D1 B1
      by_cases hxd : xj = d
      case pos =>
        have t2 : decide (xj = d) = true := by simp [hxd]
        rw [t2] at EQ
        obtain rfl : v = true := by
          rw [← hv.out]
          unfold hasD
          rw [List.contains_iff_mem, ← hxd, ← HXJ.out, List.getD_eq_getElem?_getD, List.getElem?_eq_getElem J1.out]
          exact List.getElem_mem J1.out
        clear hxd t2
        go_wp2_with fail
        go_ret
        exact ⟨rfl, B3.out⟩
      case neg =>
        have t2 : decide (xj = d) = false := by simp [hxd]
        rw [t2] at EQ
        go_wp2_with fail
        go_roundw
        case rel =>
          refine ⟨k + 1, by omega, by simp, fun j hj => ?_, B3, D3⟩
          rcases Nat.lt_or_ge j k with h | h
          · exact NE.out j h
          · obtain rfl : j = k := by omega
            rw [HXJ.out]; exact hxd
        case measure => simp [intOf]; omega
    · have t1 : ¬ ((k : Int) < n) := by omega
      obtain rfl : v = false := by
        rw [← hv.out]
        unfold hasD
        rw [← Bool.not_eq_true, List.contains_iff_mem]
        intro hm
        obtain ⟨i, hi, e⟩ := List.getElem_of_mem hm
        refine hne i (by have := hnl.out; omega) ?_
        rw [List.getD_eq_getElem?_getD, List.getElem?_eq_getElem hi]; exact e
      go_wp2_with fail
      go_ret
      exact ⟨rfl, HB.out⟩
end Go.Proofs.YtcedmiojmepioaaGreatDoor
