/- Package onetime: compare. The search for a digest among those that were used. Package onetime: increasing. Package onetime: put. -/
import Derived.Test.YtcedmiojmepioaaGreatDoorLstZ
import Derived.Test.YtcedmiojmepioaaGreatDoorRegU
namespace Go.Proofs.YtcedmiojmepioaaGreatDoor
open Go.RowKit
set_option linter.unusedVariables false
set_option linter.unusedSimpArgs false

set_option maxRecDepth 100000 in
set_option maxHeartbeats 2000000 in
theorem cmp2_is (xs ys : List Int) (w : World) (lx : Hid (xs.length = 32)) (ly : Hid (ys.length = 32)) (rx : Hid (∀ z ∈ xs, 0 ≤ z ∧ z ≤ 255)) (ry : Hid (∀ z ∈ ys, 0 ≤ z ∧ z ≤ 255)) :
    Calls Tryz.prog 32 #[.agg (bv xs).toArray, .agg (bv ys).toArray] w fun e w' => e = .returned (.int .i64 (cmpZ xs ys)) ∧ Below w.heap.size w w' := by
  go_enter Tryz.func32, Tryz.ntmps32
  go_upto_region 1 with fail
  refine wp_region_any (by kernel_rfl) ?_
  change wpAny _ _ _ _ _ _ _ (World.drew _)
  generalize hWD : World.drew _ = W
  have X1 := Lib.hid (show Dg W w.heap.size xs by rw [← hWD]; exact ((Dg.box w lx.out).alloc _).drew)
  have Y1 := Lib.hid (show Dg W (w.heap.size + 1) ys by rw [← hWD]; have := Dg.box (w.alloc (.cells (bv xs).toArray 25)) ly.out; exact Dg.drew (by simpa using this))
  have B1 := Lib.hid (show Below w.heap.size w W by rw [← hWD]; exact ((bel_alloc1 w _).alloc (by simp) _).drew)
  clear hWD
  have hCD : ∀ u, Ext W u → Ext W u := fun u hu => hu
  refine region_U (D := Ext W) (Ext W) [3] (Ext.refl W) ?_
  refine anyU_takeD (i := 0) (v := .slice (some ⟨w.heap.size, 0, none⟩) 32 32) 5 rfl rfl (by kernel_rfl) (by kernel_rfl) (by kernel_rfl) (fun _ _ _ h => h) (by kernel_rfl) (Ext.stable _) hCD (yieldsU_val rfl (fun u hu => by go_simp)) ?_
  refine anyU_takeD (i := 1) (v := .slice (some ⟨w.heap.size + 1, 0, none⟩) 32 32) 6 rfl rfl (by kernel_rfl) (by kernel_rfl) (by kernel_rfl) (fun _ _ _ h => h) (by kernel_rfl) (Ext.stable _) hCD (yieldsU_val rfl (fun u hu => by go_simp)) ?_
  refine anyU_takeD (i := 2) (v := .int .i64 (cmpZ xs ys)) 7 rfl rfl (by kernel_rfl) (by kernel_rfl) (by kernel_rfl) (fun _ _ _ h => h) (by kernel_rfl) (Ext.stable _) hCD (yieldsU_call rfl 48 _ _ rfl #[.slice (some ⟨w.heap.size, 0, none⟩) 32 32, .slice (some ⟨w.heap.size + 1, 0, none⟩) 32 32] (by simp [Act.eval, Act.put]) (fun u => by go_simp) (fun u hu => (bcmp_is _ 0 _ 0 xs ys u lx ly (Lib.hid (X1.out.bel hu).bytes) (Lib.hid (Y1.out.bel hu).bytes) rx ry).mono fun q w' hq => by obtain ⟨h1, h2⟩ := hq; subst h2; exact ⟨h1, Below.refl _ _⟩)) ?_
  refine anyU_tail 3 [] rfl rfl (by decide) (by kernel_rfl) ?_
  intro u5 hu5
  simp only [Act.put, List.filterMap_cons, List.filterMap_nil, List.getElem?_cons_succ, List.getElem?_cons_zero]
  go_wp2_with fail
  go_ret
  exact ⟨rfl, bel_trans B1.out hu5⟩
end Go.Proofs.YtcedmiojmepioaaGreatDoor
namespace Go.Proofs.YtcedmiojmepioaaGreatDoor
open Go.RowKit
set_option linter.unusedVariables false
set_option linter.unusedSimpArgs false

theorem half_wrap (a b : Nat) (h : a + b ≤ 2000000000) : IntKind.i64.wrap (IntKind.u64.wrap ((a : Int) + b) / 2) = ((a + b) / 2 : Nat) := by
  rw [IntKind.wrap_u64, IntKind.wrap_i64]; omega
set_option maxRecDepth 100000 in
set_option maxHeartbeats 4000000 in
theorem bs_some (l : List (List Int)) (d : List Int) (i n c b off : Nat) (w : World) (hd : Hid (Dgs l)) (hz : Hid (SrcL w (some ⟨b, off, none⟩) n c l)) (hn : n ≤ 1000000) (hlt : b < w.heap.size) (hb : Hid (BytesAt w b off l.flatten)) (ld : Hid (d.length = 32)) (rd : Hid (∀ z ∈ d, 0 ≤ z ∧ z ≤ 255)) (hp : Hid (IsPos l d i)) (fd : Bool) (hfd0 : Hid ((decide (i < n) && decide (l.getD i [] = d)) = fd)) :
    Calls Tryz.prog 49 #[.slice (some ⟨b, off, none⟩) n c, .agg (bv d).toArray, .func (Fn.func 32) #[] #[]] w fun e w' => e = .returned (.tuple #[.int .i64 i, .bool fd]) ∧ Below w.heap.size w w' := by
  have hnl := Lib.hid hz.out.1
  have hin : i ≤ n := by rw [hnl.out]; exact hp.out.1
  have DB0 := Lib.hid (Dg.box w ld.out)
  have HB0 := Lib.hid (bel_alloc1 w (.cells (bv d).toArray 25))
  go_enter Tryz.func49, Tryz.ntmps49
  go_upto_region 3 with fail
  go_loopw [9, 10] (fun x y wr => ∃ (a e : Nat), a ≤ i ∧ i ≤ e ∧ e ≤ n ∧ x = .int .i64 a ∧ y = .int .i64 e ∧ Hid (Below w.heap.size w wr) ∧ Hid (Dg wr w.heap.size d)) (fun x y _ => (intOf y).toNat - (intOf x).toNat)
  case atStart => exact ⟨0, n, by omega, hin, by omega, rfl, rfl, HB0, DB0⟩
  case round =>
    clear HB0 DB0
    obtain ⟨a, e, h1, h2, h3, rfl, rfl, HB, DB⟩ := hrel
    by_cases hae : a < e
    · have t1 : (a : Int) < e := by omega
      go_upto_region 5 with fail
      obtain ⟨h, hhe⟩ : ∃ h : Nat, ((a : Int) + e) / 2 = h := ⟨(a + e) / 2, by omega⟩
      rw [hhe]
      have hha : a ≤ h := by omega
      have hhb : h < e := by omega
      have hh : h < l.length := by rw [← hnl.out]; omega
      have h0 : ¬ ((h : Int) < 0) := by omega
      have h4 : (h : Int) < n := by omega
      clear hhe
      obtain ⟨xh, hxh⟩ : ∃ x, l.getD h [] = x := ⟨_, rfl⟩
      have LX := Lib.hid (show xh.length = 32 by rw [← hxh]; exact (hd.out.get hh).1)
      have RX := Lib.hid (show ∀ z ∈ xh, 0 ≤ z ∧ z ≤ 255 by rw [← hxh]; exact (hd.out.get hh).2)
      have HH := Lib.hid hh
      have HXH := Lib.hid hxh
      clear hh hxh
      refine wp_region_any (by kernel_rfl) ?_
      change wpAny _ _ _ _ _ _ _ (World.drew _)
      generalize hWD : World.drew _ = W
      have B1 := Lib.hid (show Below w.heap.size w W by rw [← hWD]; exact HB.out.drew)
      have D1 := Lib.hid (show Dg W w.heap.size d by rw [← hWD]; exact (DB.out.drew))
      have Z1 := Lib.hid (show BytesAt W b off l.flatten by rw [← hWD]; exact hb.out.below HB.out.drew hlt)
      have lt1 := Lib.hid (show b < W.heap.size from Nat.lt_of_lt_of_le hlt B1.out.size)
      clear hWD
      have hCD : ∀ u, Ext W u → Ext W u := fun u hu => hu
      refine region_U (D := Ext W) (Ext W) [7] (Ext.refl W) ?_
      refine anyU_takeD (i := 0) (v := .func (Fn.func 32) #[] #[]) 24 rfl rfl (by kernel_rfl) (by kernel_rfl) (by kernel_rfl) (fun _ _ _ h => h) (by kernel_rfl) (Ext.stable _) hCD (yieldsU_val rfl (fun u hu => by go_simp)) ?_
      refine anyU_takeD (i := 1) (v := .slice (some ⟨b, off, none⟩) n c) 25 rfl rfl (by kernel_rfl) (by kernel_rfl) (by kernel_rfl) (fun _ _ _ h => h) (by kernel_rfl) (Ext.stable _) hCD (yieldsU_val rfl (fun u hu => by go_simp)) ?_
      refine anyU_takeD (i := 2) (v := .int .i64 (h : Int)) 26 rfl rfl (by kernel_rfl) (by kernel_rfl) (by kernel_rfl) (fun _ _ _ h => h) (by kernel_rfl) (Ext.stable _) hCD (yieldsU_val rfl (fun u hu => by go_simp)) ?_
      refine anyU_takeD (i := 3) (v := .pointer (some ⟨b, off + h * 32, none⟩)) 27 rfl rfl (by kernel_rfl) (by kernel_rfl) (by kernel_rfl) (fun _ _ _ h => h) (by kernel_rfl) (Ext.stable _) hCD (yieldsU_val rfl (fun u hu => by go_simp)) ?_
      refine anyU_takeD (i := 4) (v := .agg (bv xh).toArray) 28 rfl rfl (by kernel_rfl) (by kernel_rfl) (by kernel_rfl) (fun _ _ _ h => h) (by kernel_rfl) (Ext.stable _) hCD (yieldsU_of_C (yields_loadM (by rfl) (.tmp 27) rfl b (off + h * 32) rfl xh LX.out (fun u hu => by rw [← HXH.out]; exact flat_at hd.out (Z1.out.below hu lt1.out) HH.out))) ?_
      refine anyU_takeD (i := 5) (v := .agg (bv d).toArray) 29 rfl rfl (by kernel_rfl) (by kernel_rfl) (by kernel_rfl) (fun _ _ _ h => h) (by kernel_rfl) (Ext.stable _) hCD (yieldsU_of_C (yields_loadD (by rfl) (.tmp 4) rfl w.heap.size rfl d ld.out (fun u hu => D1.out.bel hu))) ?_
      simp only [Act.put, List.setIfInBounds_toArray, List.set_cons_succ, List.set_cons_zero]
      refine anyU_one 6 1 _ rfl rfl (by kernel_rfl) ?_
      intro u1 hu
      go_wp2_with (go_at_call 32; refine (cmp2_is xh d u1 LX ld RX rd).mono ?_; rintro e u2 ⟨rfl, hb⟩; have E2 := Lib.hid (bel_trans hu hb); clear hb)
      change ∃ C' : World → Prop, _ ∧ _ ∧ _ ∧ anyU _ _ _ _ _ _ 1 _ _ _
      clear hu
      refine anchorF (fun z => Ext W z) hCD (Ext.stable W) E2.out ?_
      (try simp only [Act.put])
      refine anyU_tail 7 [] rfl rfl (by decide) (by kernel_rfl) ?_
      intro u3 hu3
      simp only [Act.put, List.filterMap_cons, List.filterMap_nil, List.getElem?_cons_succ, List.getElem?_cons_zero]
      have B3 := Lib.hid (bel_trans B1.out hu3)
      have HU3 := Lib.hid hu3
      clear hu3 E2
      have DD := Lib.hid (D1.out.bel (show Ext W u3 from HU3.out))
      cases hlt2 : ltD xh d with
      | true =>
        have hhi : h < i := by
          apply Nat.lt_of_not_le; intro hle
          have := hp.out.2.2 h hle HH.out
          rw [HXH.out, hlt2] at this; cases this
        have hcm : cmpZ xh d < 0 := by simpa [ltD] using hlt2
        go_wp2_with fail
        go_roundw
        case rel => exact ⟨h + 1, e, by omega, h2, h3, by simp, rfl, B3, DD⟩
        case measure => simp [intOf]; omega
      | false =>
        have hhi : i ≤ h := by
          apply Nat.le_of_not_lt; intro hle
          have := hp.out.2.1 h hle
          rw [HXH.out, hlt2] at this; cases this
        have hcm : ¬ (cmpZ xh d < 0) := by simpa [ltD] using hlt2
        go_wp2_with fail
        go_roundw
        case rel => exact ⟨a, h, h1, hhi, by omega, rfl, rfl, B3, DD⟩
        case measure => simp [intOf]; omega
    · obtain rfl : a = i := by omega
      obtain rfl : e = a := by omega
      go_upto_region 8 with fail
      by_cases hin2 : e < n
      · have t1 : (e : Int) < n := by omega
        have hh : e < l.length := by rw [← hnl.out]; omega
        have h0 : ¬ ((e : Int) < 0) := by omega
        obtain ⟨xh, hxh⟩ : ∃ x, l.getD e [] = x := ⟨_, rfl⟩
        have LX := Lib.hid (show xh.length = 32 by rw [← hxh]; exact (hd.out.get hh).1)
        have RX := Lib.hid (show ∀ z ∈ xh, 0 ≤ z ∧ z ≤ 255 by rw [← hxh]; exact (hd.out.get hh).2)
        have HH := Lib.hid hh
        have HXH := Lib.hid hxh
        have hq : (cmpZ xh d == 0) = fd := by
          have := hfd0.out
          rw [decide_eq_true hin2, Bool.true_and, hxh] at this
          rw [← this]
          by_cases hx : xh = d
          · rw [hx, cmpZ_self]; simp
          · have : cmpZ xh d ≠ 0 := fun h => hx ((cmpZ_eq _ _).1 h)
            simp [hx, this]
        clear hh hxh
        refine wp_region_any (by kernel_rfl) ?_
        change wpAny _ _ _ _ _ _ _ (World.drew _)
        generalize hWD : World.drew _ = W
        have B1 := Lib.hid (show Below w.heap.size w W by rw [← hWD]; exact HB.out.drew)
        have D1 := Lib.hid (show Dg W w.heap.size d by rw [← hWD]; exact (DB.out.drew))
        have Z1 := Lib.hid (show BytesAt W b off l.flatten by rw [← hWD]; exact hb.out.below HB.out.drew hlt)
        have lt1 := Lib.hid (show b < W.heap.size from Nat.lt_of_lt_of_le hlt B1.out.size)
        clear hWD
        have hCD : ∀ u, Ext W u → Ext W u := fun u hu => hu
        refine region_U (D := Ext W) (Ext W) [15] (Ext.refl W) ?_
        refine anyU_takeD (i := 0) (v := .int .i64 (e : Int)) 35 rfl rfl (by kernel_rfl) (by kernel_rfl) (by kernel_rfl) (fun _ _ _ h => h) (by kernel_rfl) (Ext.stable _) hCD (yieldsU_val rfl (fun u hu => by go_simp)) ?_
        refine anyU_takeD (i := 1) (v := .int .i64 (e : Int)) 36 rfl rfl (by kernel_rfl) (by kernel_rfl) (by kernel_rfl) (fun _ _ _ h => h) (by kernel_rfl) (Ext.stable _) hCD (yieldsU_val rfl (fun u hu => by go_simp)) ?_
        refine anyU_takeD (i := 2) (v := .int .i64 (n : Int)) 37 rfl rfl (by kernel_rfl) (by kernel_rfl) (by kernel_rfl) (fun _ _ _ h => h) (by kernel_rfl) (Ext.stable _) hCD (yieldsU_val rfl (fun u hu => by go_simp)) ?_
        refine anyU_takeD (i := 3) (v := .bool true) 38 rfl rfl (by kernel_rfl) (by kernel_rfl) (by kernel_rfl) (fun _ _ _ h => h) (by kernel_rfl) (Ext.stable _) hCD (yieldsU_val rfl (fun u hu => by go_simp)) ?_
        refine anyU_takeD (i := 4) (v := .bool true) 39 rfl rfl (by kernel_rfl) (by kernel_rfl) (by kernel_rfl) (fun _ _ _ h => h) (by kernel_rfl) (Ext.stable _) hCD (yieldsU_val rfl (fun u hu => by go_simp)) ?_
        simp only [Act.put, List.setIfInBounds_toArray, List.set_cons_succ, List.set_cons_zero]
        refine anyU_takeD (i := 5) (v := .func (Fn.func 32) #[] #[]) 40 rfl rfl (by kernel_rfl) (by kernel_rfl) (by kernel_rfl) (fun _ _ _ h => h) (by kernel_rfl) (Ext.stable _) hCD (yieldsU_val rfl (fun u hu => by go_simp)) ?_
        refine anyU_takeD (i := 6) (v := .slice (some ⟨b, off, none⟩) n c) 41 rfl rfl (by kernel_rfl) (by kernel_rfl) (by kernel_rfl) (fun _ _ _ h => h) (by kernel_rfl) (Ext.stable _) hCD (yieldsU_val rfl (fun u hu => by go_simp)) ?_
        refine anyU_takeD (i := 7) (v := .int .i64 (e : Int)) 42 rfl rfl (by kernel_rfl) (by kernel_rfl) (by kernel_rfl) (fun _ _ _ h => h) (by kernel_rfl) (Ext.stable _) hCD (yieldsU_val rfl (fun u hu => by go_simp)) ?_
        refine anyU_takeD (i := 8) (v := .pointer (some ⟨b, off + e * 32, none⟩)) 43 rfl rfl (by kernel_rfl) (by kernel_rfl) (by kernel_rfl) (fun _ _ _ h => h) (by kernel_rfl) (Ext.stable _) hCD (yieldsU_val rfl (fun u hu => by go_simp)) ?_
        simp only [Act.put, List.setIfInBounds_toArray, List.set_cons_succ, List.set_cons_zero]
        refine anyU_takeD (i := 9) (v := .agg (bv xh).toArray) 44 rfl rfl (by kernel_rfl) (by kernel_rfl) (by kernel_rfl) (fun _ _ _ h => h) (by kernel_rfl) (Ext.stable _) hCD (yieldsU_of_C (yields_loadM (by rfl) (.tmp 43) rfl b (off + e * 32) rfl xh LX.out (fun u hu => by rw [← HXH.out]; exact flat_at hd.out (Z1.out.below hu lt1.out) HH.out))) ?_
        refine anyU_takeD (i := 10) (v := .agg (bv d).toArray) 45 rfl rfl (by kernel_rfl) (by kernel_rfl) (by kernel_rfl) (fun _ _ _ h => h) (by kernel_rfl) (Ext.stable _) hCD (yieldsU_of_C (yields_loadD (by rfl) (.tmp 4) rfl w.heap.size rfl d ld.out (fun u hu => D1.out.bel hu))) ?_
        simp only [Act.put, List.setIfInBounds_toArray, List.set_cons_succ, List.set_cons_zero]
        refine anyU_one 11 4 _ rfl rfl (by kernel_rfl) ?_
        intro u1 hu
        go_wp2_with (go_at_call 32; refine (cmp2_is xh d u1 LX ld RX rd).mono ?_; rintro e u2 ⟨rfl, hb⟩; have E2 := Lib.hid (bel_trans hu hb); clear hb)
        change ∃ C' : World → Prop, _ ∧ _ ∧ _ ∧ anyU _ _ _ _ _ _ 4 _ _ _
        clear hu
        refine anchorF (fun z => Ext W z) hCD (Ext.stable W) E2.out ?_
        (try simp only [Act.put])
        refine anyU_takeD (i := 12) (v := .bool fd) 47 rfl rfl (by kernel_rfl) (by kernel_rfl) (by kernel_rfl) (fun _ _ _ h => h) (by kernel_rfl) (Ext.stable _) hCD (yieldsU_val rfl (fun u hu => by go_simp <;> exact hq)) ?_
        refine anyU_takeD (i := 13) (v := .bool fd) 48 rfl rfl (by kernel_rfl) (by kernel_rfl) (by kernel_rfl) (fun _ _ _ h => h) (by kernel_rfl) (Ext.stable _) hCD (yieldsU_val rfl (fun u hu => by cases fd <;> go_simp)) ?_
        refine anyU_takeD (i := 14) (v := .int .i64 (e : Int)) 6 rfl rfl (by kernel_rfl) (by kernel_rfl) (by kernel_rfl) (fun _ _ _ h => h) (by kernel_rfl) (Ext.stable _) hCD (yieldsU_val rfl (fun u hu => by go_simp)) ?_
        simp only [Act.put, List.setIfInBounds_toArray, List.set_cons_succ, List.set_cons_zero]
        refine anyU_tail 15 [] rfl rfl (by decide) (by kernel_rfl) ?_
        intro u3 hu3
        simp only [Act.put, List.filterMap_cons, List.filterMap_nil, List.getElem?_cons_succ, List.getElem?_cons_zero]
        have B3 := Lib.hid (bel_trans B1.out hu3)
        clear hu3 E2
        go_wp2_with fail
        go_ret2
        exact ⟨rfl, B3.out⟩
      · have t1 : ¬ ((e : Int) < n) := by omega
        obtain rfl : fd = false := by
          have := hfd0.out
          rw [decide_eq_false hin2, Bool.false_and] at this
          exact this.symm
        refine wp_region_any (by kernel_rfl) ?_
        change wpAny _ _ _ _ _ _ _ (World.drew _)
        generalize hWD : World.drew _ = W
        have B1 := Lib.hid (show Below w.heap.size w W by rw [← hWD]; exact HB.out.drew)
        have D1 := Lib.hid (show Dg W w.heap.size d by rw [← hWD]; exact (DB.out.drew))
        clear hWD
        have hCD : ∀ u, Ext W u → Ext W u := fun u hu => hu
        refine region_U (D := Ext W) (Ext W) [15] (Ext.refl W) ?_
        refine anyU_takeD (i := 0) (v := .int .i64 (e : Int)) 35 rfl rfl (by kernel_rfl) (by kernel_rfl) (by kernel_rfl) (fun _ _ _ h => h) (by kernel_rfl) (Ext.stable _) hCD (yieldsU_val rfl (fun u hu => by go_simp)) ?_
        refine anyU_takeD (i := 1) (v := .int .i64 (e : Int)) 36 rfl rfl (by kernel_rfl) (by kernel_rfl) (by kernel_rfl) (fun _ _ _ h => h) (by kernel_rfl) (Ext.stable _) hCD (yieldsU_val rfl (fun u hu => by go_simp)) ?_
        refine anyU_takeD (i := 2) (v := .int .i64 (n : Int)) 37 rfl rfl (by kernel_rfl) (by kernel_rfl) (by kernel_rfl) (fun _ _ _ h => h) (by kernel_rfl) (Ext.stable _) hCD (yieldsU_val rfl (fun u hu => by go_simp)) ?_
        refine anyU_takeD (i := 3) (v := .bool false) 38 rfl rfl (by kernel_rfl) (by kernel_rfl) (by kernel_rfl) (fun _ _ _ h => h) (by kernel_rfl) (Ext.stable _) hCD (yieldsU_val rfl (fun u hu => by go_simp)) ?_
        refine anyU_takeD (i := 4) (v := .bool false) 39 rfl rfl (by kernel_rfl) (by kernel_rfl) (by kernel_rfl) (fun _ _ _ h => h) (by kernel_rfl) (Ext.stable _) hCD (yieldsU_val rfl (fun u hu => by go_simp)) ?_
        simp only [Act.put, List.setIfInBounds_toArray, List.set_cons_succ, List.set_cons_zero]
        refine anyU_takeD (i := 5) (v := undef) 40 rfl rfl (by kernel_rfl) (by kernel_rfl) (by kernel_rfl) (fun _ _ _ h => h) (by kernel_rfl) (Ext.stable _) hCD (.inr ⟨by rfl, rfl⟩) ?_
        refine anyU_takeD (i := 6) (v := undef) 41 rfl rfl (by kernel_rfl) (by kernel_rfl) (by kernel_rfl) (fun _ _ _ h => h) (by kernel_rfl) (Ext.stable _) hCD (.inr ⟨by rfl, rfl⟩) ?_
        refine anyU_takeD (i := 7) (v := undef) 42 rfl rfl (by kernel_rfl) (by kernel_rfl) (by kernel_rfl) (fun _ _ _ h => h) (by kernel_rfl) (Ext.stable _) hCD (.inr ⟨by rfl, rfl⟩) ?_
        refine anyU_takeD (i := 8) (v := undef) 43 rfl rfl (by kernel_rfl) (by kernel_rfl) (by kernel_rfl) (fun _ _ _ h => h) (by kernel_rfl) (Ext.stable _) hCD (.inr ⟨by rfl, rfl⟩) ?_
        refine anyU_takeD (i := 9) (v := undef) 44 rfl rfl (by kernel_rfl) (by kernel_rfl) (by kernel_rfl) (fun _ _ _ h => h) (by kernel_rfl) (Ext.stable _) hCD (.inr ⟨by rfl, rfl⟩) ?_
        simp only [Act.put, List.setIfInBounds_toArray, List.set_cons_succ, List.set_cons_zero]
        refine anyU_takeD (i := 10) (v := undef) 45 rfl rfl (by kernel_rfl) (by kernel_rfl) (by kernel_rfl) (fun _ _ _ h => h) (by kernel_rfl) (Ext.stable _) hCD (.inr ⟨by rfl, rfl⟩) ?_
        refine anyU_takeD (i := 11) (v := undef) 46 rfl rfl (by kernel_rfl) (by kernel_rfl) (by kernel_rfl) (fun _ _ _ h => h) (by kernel_rfl) (Ext.stable _) hCD (.inr ⟨by rfl, rfl⟩) ?_
        refine anyU_takeD (i := 12) (v := undef) 47 rfl rfl (by kernel_rfl) (by kernel_rfl) (by kernel_rfl) (fun _ _ _ h => h) (by kernel_rfl) (Ext.stable _) hCD (.inr ⟨by rfl, rfl⟩) ?_
        refine anyU_takeD (i := 13) (v := .bool false) 48 rfl rfl (by kernel_rfl) (by kernel_rfl) (by kernel_rfl) (fun _ _ _ h => h) (by kernel_rfl) (Ext.stable _) hCD (yieldsU_val rfl (fun u hu => by go_simp)) ?_
        refine anyU_takeD (i := 14) (v := .int .i64 (e : Int)) 6 rfl rfl (by kernel_rfl) (by kernel_rfl) (by kernel_rfl) (fun _ _ _ h => h) (by kernel_rfl) (Ext.stable _) hCD (yieldsU_val rfl (fun u hu => by go_simp)) ?_
        simp only [Act.put, List.setIfInBounds_toArray, List.set_cons_succ, List.set_cons_zero]
        refine anyU_tail 15 [] rfl rfl (by decide) (by kernel_rfl) ?_
        intro u3 hu3
        simp only [Act.put, List.filterMap_cons, List.filterMap_nil, List.getElem?_cons_succ, List.getElem?_cons_zero]
        have B3 := Lib.hid (bel_trans B1.out hu3)
        clear hu3
        go_wp2_with fail
        go_ret2
        exact ⟨rfl, B3.out⟩
set_option maxRecDepth 100000 in
set_option maxHeartbeats 2000000 in
theorem bs_zero (p : Option Addr) (c : Nat) (d : List Int) (w : World) (ld : Hid (d.length = 32)) :
    Calls Tryz.prog 49 #[.slice p 0 c, .agg (bv d).toArray, .func (Fn.func 32) #[] #[]] w fun e w' => e = .returned (.tuple #[.int .i64 0, .bool false]) ∧ Below w.heap.size w w' := by
  have DB0 := Lib.hid (Dg.box w ld.out)
  have HB0 := Lib.hid (bel_alloc1 w (.cells (bv d).toArray 25))
  go_enter Tryz.func49, Tryz.ntmps49
  go_upto_region 3 with fail
  go_loopw [9, 10] (fun x y wr => x = .int .i64 0 ∧ y = .int .i64 0 ∧ Hid (Below w.heap.size w wr) ∧ Hid (Dg wr w.heap.size d)) (fun x y _ => 0)
  case atStart => exact ⟨rfl, rfl, HB0, DB0⟩
  case round =>
    clear HB0 DB0
    obtain ⟨rfl, rfl, HB, DB⟩ := hrel
    go_upto_region 8 with fail
    refine wp_region_any (by kernel_rfl) ?_
    change wpAny _ _ _ _ _ _ _ (World.drew _)
    generalize hWD : World.drew _ = W
    have B1 := Lib.hid (show Below w.heap.size w W by rw [← hWD]; exact HB.out.drew)
    have D1 := Lib.hid (show Dg W w.heap.size d by rw [← hWD]; exact (DB.out.drew))
    clear hWD
    have hCD : ∀ u, Ext W u → Ext W u := fun u hu => hu
    refine region_U (D := Ext W) (Ext W) [15] (Ext.refl W) ?_
    refine anyU_takeD (i := 0) (v := .int .i64 0) 35 rfl rfl (by kernel_rfl) (by kernel_rfl) (by kernel_rfl) (fun _ _ _ h => h) (by kernel_rfl) (Ext.stable _) hCD (yieldsU_val rfl (fun u hu => by go_simp)) ?_
    refine anyU_takeD (i := 1) (v := .int .i64 0) 36 rfl rfl (by kernel_rfl) (by kernel_rfl) (by kernel_rfl) (fun _ _ _ h => h) (by kernel_rfl) (Ext.stable _) hCD (yieldsU_val rfl (fun u hu => by go_simp)) ?_
    refine anyU_takeD (i := 2) (v := .int .i64 0) 37 rfl rfl (by kernel_rfl) (by kernel_rfl) (by kernel_rfl) (fun _ _ _ h => h) (by kernel_rfl) (Ext.stable _) hCD (yieldsU_val rfl (fun u hu => by go_simp)) ?_
    refine anyU_takeD (i := 3) (v := .bool false) 38 rfl rfl (by kernel_rfl) (by kernel_rfl) (by kernel_rfl) (fun _ _ _ h => h) (by kernel_rfl) (Ext.stable _) hCD (yieldsU_val rfl (fun u hu => by go_simp)) ?_
    refine anyU_takeD (i := 4) (v := .bool false) 39 rfl rfl (by kernel_rfl) (by kernel_rfl) (by kernel_rfl) (fun _ _ _ h => h) (by kernel_rfl) (Ext.stable _) hCD (yieldsU_val rfl (fun u hu => by go_simp)) ?_
    simp only [Act.put, List.setIfInBounds_toArray, List.set_cons_succ, List.set_cons_zero]
    refine anyU_takeD (i := 5) (v := undef) 40 rfl rfl (by kernel_rfl) (by kernel_rfl) (by kernel_rfl) (fun _ _ _ h => h) (by kernel_rfl) (Ext.stable _) hCD (.inr ⟨by rfl, rfl⟩) ?_
    refine anyU_takeD (i := 6) (v := undef) 41 rfl rfl (by kernel_rfl) (by kernel_rfl) (by kernel_rfl) (fun _ _ _ h => h) (by kernel_rfl) (Ext.stable _) hCD (.inr ⟨by rfl, rfl⟩) ?_
    refine anyU_takeD (i := 7) (v := undef) 42 rfl rfl (by kernel_rfl) (by kernel_rfl) (by kernel_rfl) (fun _ _ _ h => h) (by kernel_rfl) (Ext.stable _) hCD (.inr ⟨by rfl, rfl⟩) ?_
    refine anyU_takeD (i := 8) (v := undef) 43 rfl rfl (by kernel_rfl) (by kernel_rfl) (by kernel_rfl) (fun _ _ _ h => h) (by kernel_rfl) (Ext.stable _) hCD (.inr ⟨by rfl, rfl⟩) ?_
    refine anyU_takeD (i := 9) (v := undef) 44 rfl rfl (by kernel_rfl) (by kernel_rfl) (by kernel_rfl) (fun _ _ _ h => h) (by kernel_rfl) (Ext.stable _) hCD (.inr ⟨by rfl, rfl⟩) ?_
    simp only [Act.put, List.setIfInBounds_toArray, List.set_cons_succ, List.set_cons_zero]
    refine anyU_takeD (i := 10) (v := undef) 45 rfl rfl (by kernel_rfl) (by kernel_rfl) (by kernel_rfl) (fun _ _ _ h => h) (by kernel_rfl) (Ext.stable _) hCD (.inr ⟨by rfl, rfl⟩) ?_
    refine anyU_takeD (i := 11) (v := undef) 46 rfl rfl (by kernel_rfl) (by kernel_rfl) (by kernel_rfl) (fun _ _ _ h => h) (by kernel_rfl) (Ext.stable _) hCD (.inr ⟨by rfl, rfl⟩) ?_
    refine anyU_takeD (i := 12) (v := undef) 47 rfl rfl (by kernel_rfl) (by kernel_rfl) (by kernel_rfl) (fun _ _ _ h => h) (by kernel_rfl) (Ext.stable _) hCD (.inr ⟨by rfl, rfl⟩) ?_
    refine anyU_takeD (i := 13) (v := .bool false) 48 rfl rfl (by kernel_rfl) (by kernel_rfl) (by kernel_rfl) (fun _ _ _ h => h) (by kernel_rfl) (Ext.stable _) hCD (yieldsU_val rfl (fun u hu => by go_simp)) ?_
    refine anyU_takeD (i := 14) (v := .int .i64 0) 6 rfl rfl (by kernel_rfl) (by kernel_rfl) (by kernel_rfl) (fun _ _ _ h => h) (by kernel_rfl) (Ext.stable _) hCD (yieldsU_val rfl (fun u hu => by go_simp)) ?_
    simp only [Act.put, List.setIfInBounds_toArray, List.set_cons_succ, List.set_cons_zero]
    refine anyU_tail 15 [] rfl rfl (by decide) (by kernel_rfl) ?_
    intro u3 hu3
    simp only [Act.put, List.filterMap_cons, List.filterMap_nil, List.getElem?_cons_succ, List.getElem?_cons_zero]
    have B3 := Lib.hid (bel_trans B1.out hu3)
    clear hu3
    go_wp2_with fail
    go_ret2
    exact ⟨rfl, B3.out⟩
theorem bs_any (l : List (List Int)) (d : List Int) (i n c : Nat) (p : Option Addr) (w : World) (hd : Hid (Dgs l)) (hz : Hid (SrcL w p n c l)) (hn : n ≤ 1000000) (ld : Hid (d.length = 32)) (rd : Hid (∀ z ∈ d, 0 ≤ z ∧ z ≤ 255)) (ha : Hid (adjOK l)) (hp : Hid (IsPos l d i)) (fd : Bool) (hf : Hid (hasD l d = fd)) :
    Calls Tryz.prog 49 #[.slice p n c, .agg (bv d).toArray, .func (Fn.func 32) #[] #[]] w fun e w' => e = .returned (.tuple #[.int .i64 i, .bool fd]) ∧ Below w.heap.size w w' := by
  have hnl := hz.out.1
  have hfd : (decide (i < n) && decide (l.getD i [] = d)) = fd := by
    have h := has_pos ha.out hp.out
    rw [hf.out, ← hnl] at h
    cases fd with
    | true => have := h.1 rfl; simp only [this.1, this.2, decide_true, Bool.and_self]
    | false =>
      rw [Bool.and_eq_false_iff]
      by_cases h1 : i < n
      · right
        rw [decide_eq_false_iff_not]
        intro h2
        have := h.2 ⟨h1, h2⟩
        cases this
      · left; exact decide_eq_false h1
  rcases Nat.eq_zero_or_pos n with h0 | h0
  · have hi : i = 0 := by have := hp.out.1; omega
    subst h0 hi
    obtain rfl : fd = false := by rw [← hfd]; simp
    exact bs_zero p c d w ld
  · obtain ⟨b, off, rfl, hlt, hb⟩ := hz.out.pos h0
    exact bs_some l d i n c b off w hd hz hn hlt (Lib.hid hb) ld rd hp fd (Lib.hid hfd)
end Go.Proofs.YtcedmiojmepioaaGreatDoor
namespace Go.Proofs.YtcedmiojmepioaaGreatDoor
open Go.RowKit
set_option linter.unusedVariables false
set_option linter.unusedSimpArgs false

set_option maxRecDepth 100000 in
set_option maxHeartbeats 4000000 in
theorem oinc_is (l : List (List Int)) (p : Option Addr) (n c : Nat) (v : Bool) (w : World) (hd : Hid (Dgs l)) (hz : Hid (SrcL w p n c l)) (hn : n ≤ 4000) (hv : Hid (v = true ↔ adjOK l)) :
    Calls Tryz.prog 31 #[.slice p n c, .func (Fn.func 32) #[] #[]] w fun e w' => e = .returned (.bool v) ∧ Below w.heap.size w w' := by
  have hnl := Lib.hid hz.out.1
  go_enter Tryz.func31, Tryz.ntmps31
  go_upto_region 2 with fail
  go_loopw [5] (fun y wr => ∃ k : Nat, 1 ≤ k ∧ (k ≤ n ∨ k = 1) ∧ y = .int .i64 k ∧ (∀ j, j + 1 < k → j + 1 < n → ltD (l.getD j []) (l.getD (j + 1) []) = true) ∧ Hid (Below w.heap.size w wr)) (fun y _ => n + 1 - (intOf y).toNat)
  case atStart => exact ⟨1, by omega, .inr rfl, rfl, fun j h _ => by omega, Lib.hid (Below.refl _ w)⟩
  case round =>
    obtain ⟨k, hk1, hkn, rfl, hadj, HB⟩ := hrel
    by_cases hkl : k < n
    · have t1 : (k : Int) < n := by omega
      obtain ⟨j, rfl⟩ : ∃ j, k = j + 1 := ⟨k - 1, by omega⟩
      obtain ⟨b, off, rfl, hlt, hb⟩ := hz.out.pos (by omega)
      have J1 := Lib.hid (show j < l.length by rw [← hnl.out]; omega)
      have J2 := Lib.hid (show j + 1 < l.length by rw [← hnl.out]; omega)
      have ADJ := Lib.hid hadj
      have LT := Lib.hid hlt
      have HBY := Lib.hid hb
      clear hadj hlt hb
      have ej : ((j + 1 : Nat) : Int) = (j : Int) + 1 := by omega
      have h1 : (j : Int) < (n : Int) := by omega
      have h2 : (j : Int) + 1 < (n : Int) := by omega
      have h3 : ¬ ((j : Int) + 1 < 0) := by omega
      obtain ⟨xj, hxj⟩ : ∃ x, l.getD j [] = x := ⟨_, rfl⟩
      obtain ⟨yj, hyj⟩ : ∃ x, l.getD (j + 1) [] = x := ⟨_, rfl⟩
      have LXj := Lib.hid (show xj.length = 32 by rw [← hxj]; exact (hd.out.get J1.out).1)
      have RXj := Lib.hid (show ∀ z ∈ xj, 0 ≤ z ∧ z ≤ 255 by rw [← hxj]; exact (hd.out.get J1.out).2)
      have LYj := Lib.hid (show yj.length = 32 by rw [← hyj]; exact (hd.out.get J2.out).1)
      have RYj := Lib.hid (show ∀ z ∈ yj, 0 ≤ z ∧ z ≤ 255 by rw [← hyj]; exact (hd.out.get J2.out).2)
      have HXJ := Lib.hid hxj
      have HYJ := Lib.hid hyj
      clear hxj hyj
      go_upto_region 4 with fail
      rw [ej]
      refine wp_region_any (by kernel_rfl) ?_
      change wpAny _ _ _ _ _ _ _ (World.drew _)
      generalize hWD : World.drew _ = W
      have B1 := Lib.hid (show Below w.heap.size w W by rw [← hWD]; exact HB.out.drew)
      have Z1 := Lib.hid (show BytesAt W b off l.flatten by rw [← hWD]; exact HBY.out.below HB.out.drew LT.out)
      have lt1 := Lib.hid (show b < W.heap.size from Nat.lt_of_lt_of_le LT.out B1.out.size)
      clear hWD
      have hCD : ∀ u, Ext W u → Ext W u := fun u hu => hu
      refine region_U (D := Ext W) (Ext W) [11] (Ext.refl W) ?_
      refine anyU_takeD (i := 0) (v := .func (Fn.func 32) #[] #[]) 12 rfl rfl (by kernel_rfl) (by kernel_rfl) (by kernel_rfl) (fun _ _ _ h => h) (by kernel_rfl) (Ext.stable _) hCD (yieldsU_val rfl (fun u hu => by go_simp)) ?_
      refine anyU_takeD (i := 1) (v := .slice (some ⟨b, off, none⟩) n c) 13 rfl rfl (by kernel_rfl) (by kernel_rfl) (by kernel_rfl) (fun _ _ _ h => h) (by kernel_rfl) (Ext.stable _) hCD (yieldsU_val rfl (fun u hu => by go_simp)) ?_
      refine anyU_takeD (i := 2) (v := .int .i64 ((j : Int) + 1)) 14 rfl rfl (by kernel_rfl) (by kernel_rfl) (by kernel_rfl) (fun _ _ _ h => h) (by kernel_rfl) (Ext.stable _) hCD (yieldsU_val rfl (fun u hu => by go_simp)) ?_
      refine anyU_takeD (i := 3) (v := .int .i64 (j : Int)) 15 rfl rfl (by kernel_rfl) (by kernel_rfl) (by kernel_rfl) (fun _ _ _ h => h) (by kernel_rfl) (Ext.stable _) hCD (yieldsU_val rfl (fun u hu => by go_simp; rw [IntKind.wrap_i64]; omega)) ?_
      refine anyU_takeD (i := 4) (v := .pointer (some ⟨b, off + j * 32, none⟩)) 16 rfl rfl (by kernel_rfl) (by kernel_rfl) (by kernel_rfl) (fun _ _ _ h => h) (by kernel_rfl) (Ext.stable _) hCD (yieldsU_val rfl (fun u hu => by go_simp)) ?_
      refine anyU_takeD (i := 5) (v := .agg (bv xj).toArray) 17 rfl rfl (by kernel_rfl) (by kernel_rfl) (by kernel_rfl) (fun _ _ _ h => h) (by kernel_rfl) (Ext.stable _) hCD (yieldsU_of_C (yields_loadM (by rfl) (.tmp 16) rfl b (off + j * 32) rfl xj LXj.out (fun u hu => by rw [← HXJ.out]; exact flat_at hd.out (Z1.out.below hu lt1.out) J1.out))) ?_
      simp only [Act.put, List.setIfInBounds_toArray, List.set_cons_succ, List.set_cons_zero]
      refine anyU_takeD (i := 6) (v := .slice (some ⟨b, off, none⟩) n c) 18 rfl rfl (by kernel_rfl) (by kernel_rfl) (by kernel_rfl) (fun _ _ _ h => h) (by kernel_rfl) (Ext.stable _) hCD (yieldsU_val rfl (fun u hu => by go_simp)) ?_
      refine anyU_takeD (i := 7) (v := .int .i64 ((j : Int) + 1)) 19 rfl rfl (by kernel_rfl) (by kernel_rfl) (by kernel_rfl) (fun _ _ _ h => h) (by kernel_rfl) (Ext.stable _) hCD (yieldsU_val rfl (fun u hu => by go_simp)) ?_
      refine anyU_takeD (i := 8) (v := .pointer (some ⟨b, off + (j + 1) * 32, none⟩)) 20 rfl rfl (by kernel_rfl) (by kernel_rfl) (by kernel_rfl) (fun _ _ _ h => h) (by kernel_rfl) (Ext.stable _) hCD (yieldsU_val rfl (fun u hu => by go_simp)) ?_
      refine anyU_takeD (i := 9) (v := .agg (bv yj).toArray) 21 rfl rfl (by kernel_rfl) (by kernel_rfl) (by kernel_rfl) (fun _ _ _ h => h) (by kernel_rfl) (Ext.stable _) hCD (yieldsU_of_C (yields_loadM (by rfl) (.tmp 20) rfl b (off + (j + 1) * 32) rfl yj LYj.out (fun u hu => by rw [← HYJ.out]; exact flat_at hd.out (Z1.out.below hu lt1.out) J2.out))) ?_
      simp only [Act.put, List.setIfInBounds_toArray, List.set_cons_succ, List.set_cons_zero]
      refine anyU_one 10 1 _ rfl rfl (by kernel_rfl) ?_
      intro u1 hu
      go_wp2_with (go_at_call 32; refine (cmp2_is xj yj u1 LXj LYj RXj RYj).mono ?_; rintro e u2 ⟨rfl, hb⟩; have E2 := Lib.hid (bel_trans hu hb); clear hb)
      change ∃ C' : World → Prop, _ ∧ _ ∧ _ ∧ anyU _ _ _ _ _ _ 1 _ _ _
      clear hu
      refine anchorF (fun z => Ext W z) hCD (Ext.stable W) E2.out ?_
      (try simp only [Act.put])
      refine anyU_tail 11 [] rfl rfl (by decide) (by kernel_rfl) ?_
      intro u3 hu3
      simp only [Act.put, List.filterMap_cons, List.filterMap_nil, List.getElem?_cons_succ, List.getElem?_cons_zero]
      have B3 := Lib.hid (bel_trans B1.out hu3)
      clear hu3 E2
      cases hvv : ltD xj yj with
      | false =>
        have HVV := Lib.hid hvv
        have hc : (0 : Int) ≤ cmpZ xj yj := by have := of_decide_eq_false (show decide (cmpZ xj yj < 0) = false from hvv); omega
        clear hvv
        obtain rfl : v = false := by
          cases v with
          | false => rfl
          | true =>
            have h := (hv.out.1 rfl) j J2.out
            rw [HXJ.out, HYJ.out, HVV.out] at h; cases h
        go_wp2_with fail
        go_ret
        exact ⟨rfl, B3.out⟩
      | true =>
        have HVV := Lib.hid hvv
        have hc : ¬ ((0 : Int) ≤ cmpZ xj yj) := by have := of_decide_eq_true (show decide (cmpZ xj yj < 0) = true from hvv); omega
        clear hvv
        go_wp2_with fail
        go_roundw
        case rel =>
          refine ⟨j + 1 + 1, by omega, .inl (by omega), by simp, fun q h1 h2 => ?_, B3⟩
          rcases Nat.lt_or_ge (q + 1) (j + 1) with hq | hq
          · exact ADJ.out q hq h2
          · obtain rfl : q = j := by omega
            rw [HXJ.out, HYJ.out]; exact HVV.out
        case measure => simp [intOf]; omega
    · have t1 : ¬ ((k : Int) < n) := by omega
      have hadj' : adjOK l := fun j hj => hadj j (by have := hnl.out; omega) (by rw [hnl.out]; exact hj)
      obtain rfl : v = true := hv.out.2 hadj'
      go_wp2_with fail
      go_ret
      exact ⟨rfl, HB.out⟩
end Go.Proofs.YtcedmiojmepioaaGreatDoor
namespace Go.Proofs.YtcedmiojmepioaaGreatDoor
open Go.RowKit
set_option linter.unusedVariables false
set_option linter.unusedSimpArgs false

set_option maxRecDepth 100000 in
set_option maxHeartbeats 4000000 in
theorem oput_found (l : List (List Int)) (d : List Int) (i n cap : Nat) (p : Option Addr) (w : World) (hd : Hid (Dgs l)) (hz : Hid (SrcL w p n cap l)) (hn2 : n ≤ 4000) (ld : Hid (d.length = 32)) (rd : Hid (∀ z ∈ d, 0 ≤ z ∧ z ≤ 255)) (ha : Hid (adjOK l)) (hp : Hid (IsPos l d i)) (hf : Hid (hasD l d = true)) :
    Calls Tryz.prog 33 #[.slice p n cap, .agg (bv d).toArray, .func (Fn.func 32) #[] #[]] w fun e w' => e = .returned (.tuple #[.slice none 0 0, .bool false]) ∧ Below w.heap.size w w' := by
  have D0 := Lib.hid (Dg.box w ld.out)
  have B0 := Lib.hid (bel_alloc1 w (.cells (bv d).toArray 25))
  go_enter Tryz.func33, Tryz.ntmps33
  go_wp2_with (first
    | (refine list_loadD (by rfl) (.tmp 4) rfl w.heap.size rfl d D0.out ?_)
    | (go_at_call 49; refine (bs_any l d i n cap p _ hd (Lib.hid (hz.out.below B0.out)) (by omega) ld rd ha hp true hf).mono ?_; rintro e w1 ⟨rfl, hb⟩; have B1 := Lib.hid (bel_trans B0.out hb); have D1 := Lib.hid (D0.out.bel hb); clear hb))
  go_ret2
  exact ⟨rfl, B1.out⟩
set_option maxRecDepth 100000 in
set_option maxHeartbeats 4000000 in
theorem oput_ok (l : List (List Int)) (d : List Int) (i n cap : Nat) (p : Option Addr) (w : World) (hd : Hid (Dgs l)) (hz : Hid (SrcL w p n cap l)) (hn2 : n ≤ 4000) (ld : Hid (d.length = 32)) (rd : Hid (∀ z ∈ d, 0 ≤ z ∧ z ≤ 255)) (ha : Hid (adjOK l)) (hp : Hid (IsPos l d i)) (hf : Hid (hasD l d = false)) :
    Calls Tryz.prog 33 #[.slice p n cap, .agg (bv d).toArray, .func (Fn.func 32) #[] #[]] w fun e w' => ∃ v', e = .returned (.tuple #[v', .bool true]) ∧ OwnR w' w.heap.size v' (n + 1) (putD l d i).flatten ∧ Below w.heap.size w w' := by
  have D0 := Lib.hid (Dg.box w ld.out)
  have B0 := Lib.hid (bel_alloc1 w (.cells (bv d).toArray 25))
  go_enter Tryz.func33, Tryz.ntmps33
  go_upto_region 4 with (first
    | (refine list_loadD (by rfl) (.tmp 4) rfl w.heap.size rfl d D0.out ?_)
    | (go_at_call 49; refine (bs_any l d i n cap p _ hd (Lib.hid (hz.out.below B0.out)) (by omega) ld rd ha hp false hf).mono ?_; rintro e w1 ⟨rfl, hb⟩; have B1 := Lib.hid (bel_trans B0.out hb); have D1 := Lib.hid (D0.out.bel hb); clear hb))
  refine wp_region_any (by kernel_rfl) ?_
  change wpAny _ _ _ _ _ _ _ (World.drew _)
  generalize hWD : World.drew _ = W
  have B6 := Lib.hid (show Below w.heap.size w W by rw [← hWD]; exact B1.out.drew)
  have D6 := Lib.hid (show Dg W w.heap.size d by rw [← hWD]; exact D1.out)
  clear hWD
  have hCD : ∀ u, Ext W u → Ext W u := fun u hu => hu
  refine region_U (D := Ext W) (Ext W) [5, 6, 7] (Ext.refl W) ?_
  refine anyU_takeD (i := 0) (v := .slice p n cap) 18 rfl rfl (by kernel_rfl) (by kernel_rfl) (by kernel_rfl) (fun _ _ _ h => h) (by kernel_rfl) (Ext.stable _) hCD (yieldsU_val rfl (fun u hu => by go_simp)) ?_
  refine anyU_takeD (i := 1) (v := .slice p n n) 19 rfl rfl (by kernel_rfl) (by kernel_rfl) (by kernel_rfl) (fun _ _ _ h => h) (by kernel_rfl) (Ext.stable _) hCD (yieldsU_call rfl 51 _ _ rfl #[.slice p n cap] (by simp [Act.eval, Act.put]) (fun u => by go_simp) (fun u hu => (clipD_any p n cap u hz.out.2.1 hz.out.2.2.1 (fun e => by rcases hz.out.2.2.2 with ⟨h1, h2⟩ | ⟨b, off, h1, _⟩; exact ⟨h1, h2 e⟩; rw [e] at h1; cases h1)).mono fun q w' hq => by obtain ⟨h1, h2⟩ := hq; subst h2; exact ⟨h1, Below.refl _ _⟩)) ?_
  refine anyU_takeD (i := 2) (v := .int .i64 (i : Int)) 20 rfl rfl (by kernel_rfl) (by kernel_rfl) (by kernel_rfl) (fun _ _ _ h => h) (by kernel_rfl) (Ext.stable _) hCD (yieldsU_val rfl (fun u hu => by go_simp)) ?_
  refine anyU_takeD (i := 3) (v := .agg (bv d).toArray) 21 rfl rfl (by kernel_rfl) (by kernel_rfl) (by kernel_rfl) (fun _ _ _ h => h) (by kernel_rfl) (Ext.stable _) hCD (yieldsU_of_C (yields_loadD (by rfl) (.tmp 4) rfl w.heap.size rfl d ld.out (fun u hu => D6.out.bel hu))) ?_
  simp only [Act.put, List.setIfInBounds_toArray, List.set_cons_succ, List.set_cons_zero]
  refine anyU_one 4 3 _ rfl rfl (by kernel_rfl) ?_
  intro u1 hu
  refine list_build1 (by rfl) (.tmp 21) rfl (bv d) rfl (by rw [bv_len]; exact ld.out) ?_
  change ∃ C' : World → Prop, _ ∧ _ ∧ _ ∧ anyU _ _ _ _ _ _ 3 _ _ _
  have X1 := Lib.hid (Dg.box u1 ld.out)
  have E1 := Lib.hid (Ext.trans hu (bel_alloc1 u1 (.cells (bv d).toArray 25)))
  generalize World.alloc u1 _ = u2 at X1 E1 ⊢
  generalize u1.heap.size = xb at X1 ⊢
  clear hu
  refine anchorF (fun z => Ext W z ∧ Dg z xb d) (fun z hz => hz.1) ((Ext.stable W).and (fun y z h k => h.bel k)) ⟨E1.out, X1.out⟩ ?_
  (try simp only [Act.put])
  refine anyU_tail 5 [6, 7] rfl rfl (by decide) (by kernel_rfl) ?_
  intro u3 hu3
  simp only [Act.put, List.filterMap_cons, List.filterMap_nil, List.getElem?_cons_succ, List.getElem?_cons_zero]
  have X3 := Lib.hid hu3.2
  have B7 := Lib.hid (bel_trans B6.out hu3.1)
  clear hu3
  go_wp2_with (go_at_call 50; refine (ins_any l d i n p xb u3 hd (Lib.hid (srcL_clip (hz.out.below B7.out))) hn2 ld hp X3).mono ?_; rintro e u4 ⟨v4, rfl, o4, hb⟩; have O4 := Lib.hid (ownR_base o4 B7.out.size); have B8 := Lib.hid (bel_trans B7.out hb); clear o4 hb)
  go_ret2
  exact ⟨v4, rfl, O4.out, B8.out⟩
end Go.Proofs.YtcedmiojmepioaaGreatDoor
