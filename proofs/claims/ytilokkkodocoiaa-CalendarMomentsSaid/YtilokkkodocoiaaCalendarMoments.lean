/- CalendarMoments: the moments increase, and are all departures between the bounds. No condition. -/
import Derived.Test.YtilokkkodocoiaaCalMm
import Derived.Deep.DeepCutAuto
namespace Go.Proofs.Ytilokkkodocoiaa
open Go.ChangeShapes Go.WideShapes Go.ChangeAt Go.RowKit Go.WideElems
set_option linter.unusedVariables false
set_option linter.unusedSimpArgs false

set_option maxRecDepth 100000 in
set_option maxHeartbeats 40000000 in
theorem calendarMoments_walk (p : Option Addr) (n c : Nat) (rs : List Rl) (q : Option Addr) (m d : Nat) (gs : List Gp) (a b x : Int) (w : World) (hr : Hid (RulesV w p n c rs)) (hg : Hid (GapsV w q m d gs)) : Calls Try.prog 5 #[.slice p n c, .slice q m d, .int .i64 a, .int .i64 b, .int .i64 x] w fun e w' => e = .returned (.bool true) ∧ Below w.heap.size w w' := by
  go_enter Try.func5, Try.ntmps5
  have B0 := Lib.hid (Below.refl w.heap.size w)
  have R0 := hr
  have G0 := hg
  clear hr hg
  go_upto_region 3 with (go_at_call 9; (with_reducible refine (sane19_any w).mono ?_); rintro e w1 ⟨rfl, hb⟩; have B1 := Lib.hid (bel_trans B0.out hb); have R1 := Lib.hid (R0.out.below hb); have G1 := Lib.hid (G0.out.below hb); clear hb)
  clear R0 G0 B0
  obtain ⟨E, hE⟩ := named (momE rs gs a b)
  obtain ⟨L, hL⟩ := named (momR rs gs a b)
  have HN : L.length ≤ 2000 := by rw [← hL.out]; exact momR_len
  go_upto_region 4 with (go_at_call 10; (with_reducible refine (cmom_ah p n c rs q m d gs a b w1 R1 G1 E L hE hL).mono ?_); rintro e w2 ⟨v2, rfl, ho, hb⟩; have B2 := Lib.hid (bel_trans B1.out hb); have R2 := Lib.hid (R1.out.below hb); have G2 := Lib.hid (G1.out.below hb); have O2 := ho; clear ho; clear hb)
  clear R1 G1 B1
  obtain ⟨pl, cl, hvl, hl2⟩ := ownI_ints O2
  subst hvl
  have L2 := Lib.hid hl2
  have hcl := hl2.nc
  have hcm := hl2.cm
  clear hl2 O2
  by_cases hE0 : E = 0
  case neg =>
    have d0 : decide (E = 0) = false := decide_eq_false hE0
    have d1 : (E == 0) = false := by simpa using hE0
    have d2 : (E != 0) = true := by simpa using hE0
    have hLn : L = [] := by rw [← hL.out]; exact momR_nil (by rw [hE.out]; exact hE0)
    have hn0 : L.length = 0 := by rw [hLn]; rfl
    rw [hn0]
    clear hLn hn0
    go_wp2_with fail
    go_ret
    exact ⟨rfl, B2.out⟩
  case pos =>
    subst hE0
    have hz := mom_zero hE.out
    have HC0 := Lib.hid hz.1
    have HVV := Lib.hid (chk_valid hz.1).1
    have hme := mom_each hE.out hL.out
    have HI := Lib.hid hme.1
    have HME := Lib.hid hme.2
    have ha0 : 0 ≤ a := hz.2.1
    have hab : a ≤ b := hz.2.2.1
    have hb0 : b ≤ 2097152 := hz.2.2.2.1
    clear hz hme
    have d0 : decide ((2000 : Int) < (L.length : Int)) = false := decide_eq_false (by omega)
    have d1 : decide (a < 0) = false := decide_eq_false (by omega)
    have d2 : decide (b < a) = false := decide_eq_false (by omega)
    have d3 : decide (2097152 < b) = false := decide_eq_false (by omega)
    go_wp2_with (first
      | (go_at_call 12; (with_reducible refine (ccheck_is p n c rs q m d gs 0 w2 R2 G2 HC0).mono ?_); rintro e w3 ⟨rfl, hb⟩; have B3 := Lib.hid (bel_trans B2.out hb); have R3 := Lib.hid (R2.out.below hb); have G3 := Lib.hid (G2.out.below hb); have L3 := Lib.hid (L2.out.below hb); have C3 := Lib.hid hb; clear hb)
      | (go_at_call 13; (with_reducible refine (rcheck_is p n c rs q m d gs 0 w3 R3 G3 HC0).mono ?_); rintro e w4 ⟨rfl, hb⟩; have B4 := Lib.hid (bel_trans B3.out hb); have R4 := Lib.hid (R3.out.below hb); have G4 := Lib.hid (G3.out.below hb); have L4 := Lib.hid (L3.out.below hb); have C4 := Lib.hid (bel_trans C3.out hb); clear hb))
    clear R3 G3 B3 L3 C3 R4 G4 L4 d0 d1 d2 d3
    go_loopw [13, 14] (fun mt i wr => ∃ (k : Nat) (v : Bool), k ≤ L.length ∧ mt = .bool v ∧ i = .int .i64 (k : Int) ∧ Hid (decide (x ∈ L.take k) = v) ∧ Hid (Below w.heap.size w wr) ∧ Hid (Below w2.heap.size w2 wr)) (fun _ i _ => L.length - (intOf i).toNat)
    case atStart => exact ⟨0, false, by omega, rfl, by simp, Lib.hid (by simp), B4, C4⟩
    case round =>
      clear B4 C4
      obtain ⟨k, v, hk, rfl, rfl, HM, HB, HC⟩ := hrel
      rename World => wr
      have RR := Lib.hid (R2.out.below HC.out)
      have GR := Lib.hid (G2.out.below HC.out)
      have LR := Lib.hid (L2.out.below HC.out)
      by_cases hlt : k < L.length
      · have d3 : decide ((k : Int) < (L.length : Int)) = true := decide_eq_true (by omega)
        obtain ⟨lb, lo, hlp, hlb, cx⟩ := LR.out.at hlt
        obtain ⟨y, hx⟩ : ∃ y, L.getD k 0 = y := ⟨_, rfl⟩
        have hym := (HME.out y).1 (by rw [← hx]; exact getD_memZ hlt)
        have t1 : decide (y < a) = false := decide_eq_false (by omega)
        have t2 : decide (b ≤ y) = false := decide_eq_false (by omega)
        have FD := Lib.hid hym.2.2
        have hy0 : 0 ≤ y := by omega
        have hy1 : y ≤ 2097152 := by omega
        rw [hx] at cx
        have HX := Lib.hid hx
        clear hym hx
        have hcz : ∀ (j : Nat), j < L.length → ∃ z, L.getD j 0 = z ∧ wr.cell? ⟨lb, lo + j, none⟩ = some (.int .i64 z) := by
          intro j hj
          obtain ⟨lb', lo', hlp', _, cz⟩ := LR.out.at hj
          rw [hlp] at hlp'
          simp only [Option.some.injEq, Addr.mk.injEq] at hlp'
          obtain ⟨rfl, rfl, _⟩ := hlp'
          exact ⟨_, rfl, cz⟩
        have HCZ := Lib.hid hcz
        clear hcz
        subst hlp
        by_cases hk0 : 0 < k
        · obtain ⟨j, hj⟩ : ∃ j, k = j + 1 := ⟨k - 1, by omega⟩
          obtain ⟨z, hz, cz⟩ := HCZ.out j (by omega)
          have hzy : z < y := by
            have := inc_getD HI.out (show j < k by omega) hlt
            rw [hz, HX.out] at this
            exact this
          have hjl : j < L.length := by omega
          have t5 : decide (y ≤ z) = false := decide_eq_false (by omega)
          have t6 : decide ((0 : Int) < (k : Int)) = true := decide_eq_true (by omega)
          have hwj : IntKind.i64.wrap ((k : Int) - 1) = (j : Int) := by rw [IntKind.wrap_i64]; omega
          clear hz hzy HCZ hj
          go_upto_region 12 with fail
          refine wp_region_any (by kernel_rfl) ?_
          change wpAny _ _ _ _ _ _ _ (World.drew _)
          generalize hWD : World.drew _ = V
          have BV := Lib.hid (show Below w.heap.size w V by rw [← hWD]; exact HB.out.drew)
          have DV := Lib.hid (show Below w2.heap.size w2 V by rw [← hWD]; exact HC.out.drew)
          have CY := Lib.hid (show V.cell? ⟨lb, lo + k, none⟩ = some (.int .i64 y) by rw [← hWD]; exact cx)
          have CZ := Lib.hid (show V.cell? ⟨lb, lo + j, none⟩ = some (.int .i64 z) by rw [← hWD]; exact cz)
          have hbV : lb < V.heap.size := by rw [← hWD]; exact hlb
          clear hWD cx cz
          have hCD : ∀ u, Ext V u → Ext V u := fun u hu => hu
          have CONT := Lib.hid (fun (u : World) (hu : Ext V u) => rdep_is p n c rs q m d gs y true u (Lib.hid (R2.out.below (bel_trans DV.out hu))) (Lib.hid (G2.out.below (bel_trans DV.out hu))) HVV hy0 hy1 FD)
          refine region_U (D := Ext V) (Ext V) [39] (Ext.refl V) ?_
          refine anyU_takeP (i := 0) (j := 39) (v := .slice (some ⟨lb, lo, none⟩) L.length cl) 64 [30, 29, 14, 6, 5, 3, 2] rfl rfl (by kernel_rfl) (by kernel_rfl) (by kernel_rfl) (fun _ _ _ h => h) (by kernel_rfl) (Ext.stable _) hCD (yieldsU_val rfl (fun u hu => by go_simp)) ?_
          refine anyU_takeP (i := 1) (j := 39) (v := .int .i64 (k : Int)) 65 [30, 29, 14, 6, 5, 3, 2] rfl rfl (by kernel_rfl) (by kernel_rfl) (by kernel_rfl) (fun _ _ _ h => h) (by kernel_rfl) (Ext.stable _) hCD (yieldsU_val rfl (fun u hu => by go_simp)) ?_
          refine anyU_takeP (i := 2) (j := 39) (v := .pointer (some ⟨lb, lo + k, none⟩)) 66 [30, 29, 14, 6, 5, 3] rfl rfl (by kernel_rfl) (by kernel_rfl) (by kernel_rfl) (fun _ _ _ h => h) (by kernel_rfl) (Ext.stable _) hCD (yieldsU_val rfl (fun u hu => by go_simp)) ?_
          refine anyU_takeP (i := 3) (j := 39) (v := .int .i64 y) 67 [30, 29, 14, 6, 5] rfl rfl (by kernel_rfl) (by kernel_rfl) (by kernel_rfl) (fun _ _ _ h => h) (by kernel_rfl) (Ext.stable _) hCD (yieldsU_val rfl (fun u hu => by have cc := (hu.cell (p := ⟨lb, lo + k, none⟩) hbV).trans CY.out; go_simp)) ?_
          refine anyU_takeP (i := 4) (j := 39) (v := .int .i64 a) 68 [30, 29, 14, 6, 5] rfl rfl (by kernel_rfl) (by kernel_rfl) (by kernel_rfl) (fun _ _ _ h => h) (by kernel_rfl) (Ext.stable _) hCD (yieldsU_val rfl (fun u hu => by go_simp)) ?_
          simp only [Act.put, List.setIfInBounds_toArray, List.set_cons_succ, List.set_cons_zero]
          refine anyU_takeP (i := 5) (j := 39) (v := .bool false) 69 [30, 29, 14, 6] rfl rfl (by kernel_rfl) (by kernel_rfl) (by kernel_rfl) (fun _ _ _ h => h) (by kernel_rfl) (Ext.stable _) hCD (yieldsU_val rfl (fun u hu => by go_simp)) ?_
          refine anyU_takeP (i := 6) (j := 39) (v := .bool false) 70 [30, 29, 14] rfl rfl (by kernel_rfl) (by kernel_rfl) (by kernel_rfl) (fun _ _ _ h => h) (by kernel_rfl) (Ext.stable _) hCD (yieldsU_val rfl (fun u hu => by go_simp)) ?_
          refine anyU_takeP (i := 7) (j := 39) (v := .slice (some ⟨lb, lo, none⟩) L.length cl) 71 [30, 29, 14, 13, 12, 10, 9] rfl rfl (by kernel_rfl) (by kernel_rfl) (by kernel_rfl) (fun _ _ _ h => h) (by kernel_rfl) (Ext.stable _) hCD (yieldsU_val rfl (fun u hu => by go_simp)) ?_
          refine anyU_takeP (i := 8) (j := 39) (v := .int .i64 (k : Int)) 72 [30, 29, 14, 13, 12, 10, 9] rfl rfl (by kernel_rfl) (by kernel_rfl) (by kernel_rfl) (fun _ _ _ h => h) (by kernel_rfl) (Ext.stable _) hCD (yieldsU_val rfl (fun u hu => by go_simp)) ?_
          refine anyU_takeP (i := 9) (j := 39) (v := .pointer (some ⟨lb, lo + k, none⟩)) 73 [30, 29, 14, 13, 12, 10] rfl rfl (by kernel_rfl) (by kernel_rfl) (by kernel_rfl) (fun _ _ _ h => h) (by kernel_rfl) (Ext.stable _) hCD (yieldsU_val rfl (fun u hu => by go_simp)) ?_
          simp only [Act.put, List.setIfInBounds_toArray, List.set_cons_succ, List.set_cons_zero]
          refine anyU_takeP (i := 10) (j := 39) (v := .int .i64 y) 74 [30, 29, 14, 13, 12] rfl rfl (by kernel_rfl) (by kernel_rfl) (by kernel_rfl) (fun _ _ _ h => h) (by kernel_rfl) (Ext.stable _) hCD (yieldsU_val rfl (fun u hu => by have cc := (hu.cell (p := ⟨lb, lo + k, none⟩) hbV).trans CY.out; go_simp)) ?_
          refine anyU_takeP (i := 11) (j := 39) (v := .int .i64 b) 75 [30, 29, 14, 13, 12] rfl rfl (by kernel_rfl) (by kernel_rfl) (by kernel_rfl) (fun _ _ _ h => h) (by kernel_rfl) (Ext.stable _) hCD (yieldsU_val rfl (fun u hu => by go_simp)) ?_
          refine anyU_takeP (i := 12) (j := 39) (v := .bool false) 76 [30, 29, 14, 13] rfl rfl (by kernel_rfl) (by kernel_rfl) (by kernel_rfl) (fun _ _ _ h => h) (by kernel_rfl) (Ext.stable _) hCD (yieldsU_val rfl (fun u hu => by go_simp)) ?_
          refine anyU_takeP (i := 13) (j := 39) (v := .bool false) 77 [30, 29, 14] rfl rfl (by kernel_rfl) (by kernel_rfl) (by kernel_rfl) (fun _ _ _ h => h) (by kernel_rfl) (Ext.stable _) hCD (yieldsU_val rfl (fun u hu => by go_simp)) ?_
          refine anyU_takeP (i := 14) (j := 39) (v := .bool false) 78 [30, 29] rfl rfl (by kernel_rfl) (by kernel_rfl) (by kernel_rfl) (fun _ _ _ h => h) (by kernel_rfl) (Ext.stable _) hCD (yieldsU_val rfl (fun u hu => by go_simp)) ?_
          simp only [Act.put, List.setIfInBounds_toArray, List.set_cons_succ, List.set_cons_zero]
          refine anyU_takeP (i := 15) (j := 39) (v := .int .i64 (k : Int)) 79 [30, 17, 16] rfl rfl (by kernel_rfl) (by kernel_rfl) (by kernel_rfl) (fun _ _ _ h => h) (by kernel_rfl) (Ext.stable _) hCD (yieldsU_val rfl (fun u hu => by go_simp)) ?_
          refine anyU_takeP (i := 16) (j := 39) (v := .bool true) 80 [30, 17] rfl rfl (by kernel_rfl) (by kernel_rfl) (by kernel_rfl) (fun _ _ _ h => h) (by kernel_rfl) (Ext.stable _) hCD (yieldsU_val rfl (fun u hu => by go_simp)) ?_
          refine anyU_takeP (i := 17) (j := 39) (v := .bool true) 81 [30] rfl rfl (by kernel_rfl) (by kernel_rfl) (by kernel_rfl) (fun _ _ _ h => h) (by kernel_rfl) (Ext.stable _) hCD (yieldsU_val rfl (fun u hu => by go_simp)) ?_
          refine anyU_takeP (i := 18) (j := 39) (v := .slice (some ⟨lb, lo, none⟩) L.length cl) 82 [30, 29, 28, 27, 21, 20] rfl rfl (by kernel_rfl) (by kernel_rfl) (by kernel_rfl) (fun _ _ _ h => h) (by kernel_rfl) (Ext.stable _) hCD (yieldsU_val rfl (fun u hu => by go_simp)) ?_
          refine anyU_takeP (i := 19) (j := 39) (v := .int .i64 (k : Int)) 83 [30, 29, 28, 27, 21, 20] rfl rfl (by kernel_rfl) (by kernel_rfl) (by kernel_rfl) (fun _ _ _ h => h) (by kernel_rfl) (Ext.stable _) hCD (yieldsU_val rfl (fun u hu => by go_simp)) ?_
          simp only [Act.put, List.setIfInBounds_toArray, List.set_cons_succ, List.set_cons_zero]
          refine anyU_takeP (i := 20) (j := 39) (v := .pointer (some ⟨lb, lo + k, none⟩)) 84 [30, 29, 28, 27, 21] rfl rfl (by kernel_rfl) (by kernel_rfl) (by kernel_rfl) (fun _ _ _ h => h) (by kernel_rfl) (Ext.stable _) hCD (yieldsU_val rfl (fun u hu => by go_simp)) ?_
          refine anyU_takeP (i := 21) (j := 39) (v := .int .i64 y) 85 [30, 29, 28, 27] rfl rfl (by kernel_rfl) (by kernel_rfl) (by kernel_rfl) (fun _ _ _ h => h) (by kernel_rfl) (Ext.stable _) hCD (yieldsU_val rfl (fun u hu => by have cc := (hu.cell (p := ⟨lb, lo + k, none⟩) hbV).trans CY.out; go_simp)) ?_
          refine anyU_takeP (i := 22) (j := 39) (v := .slice (some ⟨lb, lo, none⟩) L.length cl) 86 [30, 29, 28, 27, 26, 25] rfl rfl (by kernel_rfl) (by kernel_rfl) (by kernel_rfl) (fun _ _ _ h => h) (by kernel_rfl) (Ext.stable _) hCD (yieldsU_val rfl (fun u hu => by go_simp)) ?_
          refine anyU_takeP (i := 23) (j := 39) (v := .int .i64 (k : Int)) 87 [30, 29, 28, 27, 26, 25, 24] rfl rfl (by kernel_rfl) (by kernel_rfl) (by kernel_rfl) (fun _ _ _ h => h) (by kernel_rfl) (Ext.stable _) hCD (yieldsU_val rfl (fun u hu => by go_simp)) ?_
          refine anyU_takeP (i := 24) (j := 39) (v := .int .i64 (j : Int)) 88 [30, 29, 28, 27, 26, 25] rfl rfl (by kernel_rfl) (by kernel_rfl) (by kernel_rfl) (fun _ _ _ h => h) (by kernel_rfl) (Ext.stable _) hCD (yieldsU_val rfl (fun u hu => by go_simp)) ?_
          simp only [Act.put, List.setIfInBounds_toArray, List.set_cons_succ, List.set_cons_zero]
          refine anyU_takeP (i := 25) (j := 39) (v := .pointer (some ⟨lb, lo + j, none⟩)) 89 [30, 29, 28, 27, 26] rfl rfl (by kernel_rfl) (by kernel_rfl) (by kernel_rfl) (fun _ _ _ h => h) (by kernel_rfl) (Ext.stable _) hCD (yieldsU_val rfl (fun u hu => by go_simp)) ?_
          refine anyU_takeP (i := 26) (j := 39) (v := .int .i64 z) 90 [30, 29, 28, 27] rfl rfl (by kernel_rfl) (by kernel_rfl) (by kernel_rfl) (fun _ _ _ h => h) (by kernel_rfl) (Ext.stable _) hCD (yieldsU_val rfl (fun u hu => by have cc := (hu.cell (p := ⟨lb, lo + j, none⟩) hbV).trans CZ.out; go_simp)) ?_
          refine anyU_takeP (i := 27) (j := 39) (v := .bool false) 91 [30, 29, 28] rfl rfl (by kernel_rfl) (by kernel_rfl) (by kernel_rfl) (fun _ _ _ h => h) (by kernel_rfl) (Ext.stable _) hCD (yieldsU_val rfl (fun u hu => by go_simp)) ?_
          refine anyU_takeP (i := 28) (j := 39) (v := .bool false) 92 [30, 29] rfl rfl (by kernel_rfl) (by kernel_rfl) (by kernel_rfl) (fun _ _ _ h => h) (by kernel_rfl) (Ext.stable _) hCD (yieldsU_val rfl (fun u hu => by go_simp)) ?_
          refine anyU_takeP (i := 29) (j := 39) (v := .bool false) 93 [30] rfl rfl (by kernel_rfl) (by kernel_rfl) (by kernel_rfl) (fun _ _ _ h => h) (by kernel_rfl) (Ext.stable _) hCD (yieldsU_val rfl (fun u hu => by go_simp)) ?_
          simp only [Act.put, List.setIfInBounds_toArray, List.set_cons_succ, List.set_cons_zero]
          refine anyU_takeP (i := 30) (j := 39) (v := .bool false) 94 [] rfl rfl (by kernel_rfl) (by kernel_rfl) (by kernel_rfl) (fun _ _ _ h => h) (by kernel_rfl) (Ext.stable _) hCD (yieldsU_val rfl (fun u hu => by go_simp)) ?_
          refine anyU_takeP (i := 31) (j := 39) (v := .slice p n c) 95 [38, 37] rfl rfl (by kernel_rfl) (by kernel_rfl) (by kernel_rfl) (fun _ _ _ h => h) (by kernel_rfl) (Ext.stable _) hCD (yieldsU_val rfl (fun u hu => by go_simp)) ?_
          refine anyU_takeP (i := 32) (j := 39) (v := .slice q m d) 96 [38, 37] rfl rfl (by kernel_rfl) (by kernel_rfl) (by kernel_rfl) (fun _ _ _ h => h) (by kernel_rfl) (Ext.stable _) hCD (yieldsU_val rfl (fun u hu => by go_simp)) ?_
          refine anyU_takeP (i := 33) (j := 39) (v := .slice (some ⟨lb, lo, none⟩) L.length cl) 97 [38, 37, 36, 35] rfl rfl (by kernel_rfl) (by kernel_rfl) (by kernel_rfl) (fun _ _ _ h => h) (by kernel_rfl) (Ext.stable _) hCD (yieldsU_val rfl (fun u hu => by go_simp)) ?_
          refine anyU_takeP (i := 34) (j := 39) (v := .int .i64 (k : Int)) 98 [38, 37, 36, 35] rfl rfl (by kernel_rfl) (by kernel_rfl) (by kernel_rfl) (fun _ _ _ h => h) (by kernel_rfl) (Ext.stable _) hCD (yieldsU_val rfl (fun u hu => by go_simp)) ?_
          simp only [Act.put, List.setIfInBounds_toArray, List.set_cons_succ, List.set_cons_zero]
          refine anyU_takeP (i := 35) (j := 39) (v := .pointer (some ⟨lb, lo + k, none⟩)) 99 [38, 37, 36] rfl rfl (by kernel_rfl) (by kernel_rfl) (by kernel_rfl) (fun _ _ _ h => h) (by kernel_rfl) (Ext.stable _) hCD (yieldsU_val rfl (fun u hu => by go_simp)) ?_
          refine anyU_takeP (i := 36) (j := 39) (v := .int .i64 y) 100 [38, 37] rfl rfl (by kernel_rfl) (by kernel_rfl) (by kernel_rfl) (fun _ _ _ h => h) (by kernel_rfl) (Ext.stable _) hCD (yieldsU_val rfl (fun u hu => by have cc := (hu.cell (p := ⟨lb, lo + k, none⟩) hbV).trans CY.out; go_simp)) ?_
          refine anyU_takeP (i := 37) (j := 39) (v := .bool true) 101 [38] rfl rfl (by kernel_rfl) (by kernel_rfl) (by kernel_rfl) (fun _ _ _ h => h) (by kernel_rfl) (Ext.stable _) hCD (yieldsU_call rfl 17 _ _ rfl #[.slice p n c, .slice q m d, .int .i64 y] (by simp [Act.eval, Act.put]) (fun u => by go_simp) (fun u hu => CONT.out u hu)) ?_
          refine anyU_takeP (i := 38) (j := 39) (v := .bool false) 102 [] rfl rfl (by kernel_rfl) (by kernel_rfl) (by kernel_rfl) (fun _ _ _ h => h) (by kernel_rfl) (Ext.stable _) hCD (yieldsU_val rfl (fun u hu => by go_simp)) ?_
          simp only [Act.put, List.setIfInBounds_toArray, List.set_cons_succ, List.set_cons_zero]
          refine anyU_tail 39 [] rfl rfl (by decide) (by kernel_rfl) ?_
          intro u hu
          simp only [Act.put, List.filterMap_cons, List.filterMap_nil, List.getElem?_cons_succ, List.getElem?_cons_zero]
          have BU := Lib.hid (bel_trans BV.out hu)
          have DU := Lib.hid (bel_trans DV.out hu)
          have cu : u.cell? ⟨lb, lo + k, none⟩ = some (.int .i64 y) := (hu.cell (p := ⟨lb, lo + k, none⟩) hbV).trans CY.out
          clear hu CY BV DV CONT CZ
          cases v with
          | true =>
            have MT := Lib.hid (show decide (x ∈ L.take (k + 1)) = true by rw [mem_take_snoc hlt HX.out HM.out]; rfl)
            go_wp2_with fail
            go_roundw
            case rel => exact ⟨k + 1, true, by omega, rfl, by simp, MT, BU, DU⟩
            case measure => simp [intOf]; omega
          | false =>
            by_cases hyx : y = x
            · have t9 : decide (y = x) = true := decide_eq_true hyx
              have t10 : (y == x) = true := by simpa using hyx
              have MT := Lib.hid (show decide (x ∈ L.take (k + 1)) = true by rw [mem_take_snoc hlt HX.out HM.out, t9]; rfl)
              clear hyx
              go_wp2_with fail
              go_roundw
              case rel => exact ⟨k + 1, true, by omega, rfl, by simp, MT, BU, DU⟩
              case measure => simp [intOf]; omega
            · have t9 : decide (y = x) = false := decide_eq_false hyx
              have t10 : (y == x) = false := by simpa using hyx
              have MT := Lib.hid (show decide (x ∈ L.take (k + 1)) = false by rw [mem_take_snoc hlt HX.out HM.out, t9]; rfl)
              clear hyx
              go_wp2_with fail
              go_roundw
              case rel => exact ⟨k + 1, false, by omega, rfl, by simp, MT, BU, DU⟩
              case measure => simp [intOf]; omega
        · have t6 : decide ((0 : Int) < (k : Int)) = false := decide_eq_false (by omega)
          clear HCZ
          go_upto_region 12 with fail
          refine wp_region_any (by kernel_rfl) ?_
          change wpAny _ _ _ _ _ _ _ (World.drew _)
          generalize hWD : World.drew _ = V
          have BV := Lib.hid (show Below w.heap.size w V by rw [← hWD]; exact HB.out.drew)
          have DV := Lib.hid (show Below w2.heap.size w2 V by rw [← hWD]; exact HC.out.drew)
          have CY := Lib.hid (show V.cell? ⟨lb, lo + k, none⟩ = some (.int .i64 y) by rw [← hWD]; exact cx)
          have hbV : lb < V.heap.size := by rw [← hWD]; exact hlb
          clear hWD cx 
          have hCD : ∀ u, Ext V u → Ext V u := fun u hu => hu
          have CONT := Lib.hid (fun (u : World) (hu : Ext V u) => rdep_is p n c rs q m d gs y true u (Lib.hid (R2.out.below (bel_trans DV.out hu))) (Lib.hid (G2.out.below (bel_trans DV.out hu))) HVV hy0 hy1 FD)
          refine region_U (D := Ext V) (Ext V) [39] (Ext.refl V) ?_
          refine anyU_takeP (i := 0) (j := 39) (v := .slice (some ⟨lb, lo, none⟩) L.length cl) 64 [30, 29, 14, 6, 5, 3, 2] rfl rfl (by kernel_rfl) (by kernel_rfl) (by kernel_rfl) (fun _ _ _ h => h) (by kernel_rfl) (Ext.stable _) hCD (yieldsU_val rfl (fun u hu => by go_simp)) ?_
          refine anyU_takeP (i := 1) (j := 39) (v := .int .i64 (k : Int)) 65 [30, 29, 14, 6, 5, 3, 2] rfl rfl (by kernel_rfl) (by kernel_rfl) (by kernel_rfl) (fun _ _ _ h => h) (by kernel_rfl) (Ext.stable _) hCD (yieldsU_val rfl (fun u hu => by go_simp)) ?_
          refine anyU_takeP (i := 2) (j := 39) (v := .pointer (some ⟨lb, lo + k, none⟩)) 66 [30, 29, 14, 6, 5, 3] rfl rfl (by kernel_rfl) (by kernel_rfl) (by kernel_rfl) (fun _ _ _ h => h) (by kernel_rfl) (Ext.stable _) hCD (yieldsU_val rfl (fun u hu => by go_simp)) ?_
          refine anyU_takeP (i := 3) (j := 39) (v := .int .i64 y) 67 [30, 29, 14, 6, 5] rfl rfl (by kernel_rfl) (by kernel_rfl) (by kernel_rfl) (fun _ _ _ h => h) (by kernel_rfl) (Ext.stable _) hCD (yieldsU_val rfl (fun u hu => by have cc := (hu.cell (p := ⟨lb, lo + k, none⟩) hbV).trans CY.out; go_simp)) ?_
          refine anyU_takeP (i := 4) (j := 39) (v := .int .i64 a) 68 [30, 29, 14, 6, 5] rfl rfl (by kernel_rfl) (by kernel_rfl) (by kernel_rfl) (fun _ _ _ h => h) (by kernel_rfl) (Ext.stable _) hCD (yieldsU_val rfl (fun u hu => by go_simp)) ?_
          simp only [Act.put, List.setIfInBounds_toArray, List.set_cons_succ, List.set_cons_zero]
          refine anyU_takeP (i := 5) (j := 39) (v := .bool false) 69 [30, 29, 14, 6] rfl rfl (by kernel_rfl) (by kernel_rfl) (by kernel_rfl) (fun _ _ _ h => h) (by kernel_rfl) (Ext.stable _) hCD (yieldsU_val rfl (fun u hu => by go_simp)) ?_
          refine anyU_takeP (i := 6) (j := 39) (v := .bool false) 70 [30, 29, 14] rfl rfl (by kernel_rfl) (by kernel_rfl) (by kernel_rfl) (fun _ _ _ h => h) (by kernel_rfl) (Ext.stable _) hCD (yieldsU_val rfl (fun u hu => by go_simp)) ?_
          refine anyU_takeP (i := 7) (j := 39) (v := .slice (some ⟨lb, lo, none⟩) L.length cl) 71 [30, 29, 14, 13, 12, 10, 9] rfl rfl (by kernel_rfl) (by kernel_rfl) (by kernel_rfl) (fun _ _ _ h => h) (by kernel_rfl) (Ext.stable _) hCD (yieldsU_val rfl (fun u hu => by go_simp)) ?_
          refine anyU_takeP (i := 8) (j := 39) (v := .int .i64 (k : Int)) 72 [30, 29, 14, 13, 12, 10, 9] rfl rfl (by kernel_rfl) (by kernel_rfl) (by kernel_rfl) (fun _ _ _ h => h) (by kernel_rfl) (Ext.stable _) hCD (yieldsU_val rfl (fun u hu => by go_simp)) ?_
          refine anyU_takeP (i := 9) (j := 39) (v := .pointer (some ⟨lb, lo + k, none⟩)) 73 [30, 29, 14, 13, 12, 10] rfl rfl (by kernel_rfl) (by kernel_rfl) (by kernel_rfl) (fun _ _ _ h => h) (by kernel_rfl) (Ext.stable _) hCD (yieldsU_val rfl (fun u hu => by go_simp)) ?_
          simp only [Act.put, List.setIfInBounds_toArray, List.set_cons_succ, List.set_cons_zero]
          refine anyU_takeP (i := 10) (j := 39) (v := .int .i64 y) 74 [30, 29, 14, 13, 12] rfl rfl (by kernel_rfl) (by kernel_rfl) (by kernel_rfl) (fun _ _ _ h => h) (by kernel_rfl) (Ext.stable _) hCD (yieldsU_val rfl (fun u hu => by have cc := (hu.cell (p := ⟨lb, lo + k, none⟩) hbV).trans CY.out; go_simp)) ?_
          refine anyU_takeP (i := 11) (j := 39) (v := .int .i64 b) 75 [30, 29, 14, 13, 12] rfl rfl (by kernel_rfl) (by kernel_rfl) (by kernel_rfl) (fun _ _ _ h => h) (by kernel_rfl) (Ext.stable _) hCD (yieldsU_val rfl (fun u hu => by go_simp)) ?_
          refine anyU_takeP (i := 12) (j := 39) (v := .bool false) 76 [30, 29, 14, 13] rfl rfl (by kernel_rfl) (by kernel_rfl) (by kernel_rfl) (fun _ _ _ h => h) (by kernel_rfl) (Ext.stable _) hCD (yieldsU_val rfl (fun u hu => by go_simp)) ?_
          refine anyU_takeP (i := 13) (j := 39) (v := .bool false) 77 [30, 29, 14] rfl rfl (by kernel_rfl) (by kernel_rfl) (by kernel_rfl) (fun _ _ _ h => h) (by kernel_rfl) (Ext.stable _) hCD (yieldsU_val rfl (fun u hu => by go_simp)) ?_
          refine anyU_takeP (i := 14) (j := 39) (v := .bool false) 78 [30, 29] rfl rfl (by kernel_rfl) (by kernel_rfl) (by kernel_rfl) (fun _ _ _ h => h) (by kernel_rfl) (Ext.stable _) hCD (yieldsU_val rfl (fun u hu => by go_simp)) ?_
          simp only [Act.put, List.setIfInBounds_toArray, List.set_cons_succ, List.set_cons_zero]
          refine anyU_takeP (i := 15) (j := 39) (v := .int .i64 (k : Int)) 79 [30, 17, 16] rfl rfl (by kernel_rfl) (by kernel_rfl) (by kernel_rfl) (fun _ _ _ h => h) (by kernel_rfl) (Ext.stable _) hCD (yieldsU_val rfl (fun u hu => by go_simp)) ?_
          refine anyU_takeP (i := 16) (j := 39) (v := .bool false) 80 [30, 17] rfl rfl (by kernel_rfl) (by kernel_rfl) (by kernel_rfl) (fun _ _ _ h => h) (by kernel_rfl) (Ext.stable _) hCD (yieldsU_val rfl (fun u hu => by go_simp)) ?_
          refine anyU_takeP (i := 17) (j := 39) (v := .bool false) 81 [30] rfl rfl (by kernel_rfl) (by kernel_rfl) (by kernel_rfl) (fun _ _ _ h => h) (by kernel_rfl) (Ext.stable _) hCD (yieldsU_val rfl (fun u hu => by go_simp)) ?_
          refine anyU_takeP (i := 18) (j := 39) (v := undef) 82 [30, 29, 28, 27, 21, 20] rfl rfl (by kernel_rfl) (by kernel_rfl) (by kernel_rfl) (fun _ _ _ h => h) (by kernel_rfl) (Ext.stable _) hCD (.inr ⟨by rfl, rfl⟩) ?_
          refine anyU_takeP (i := 19) (j := 39) (v := undef) 83 [30, 29, 28, 27, 21, 20] rfl rfl (by kernel_rfl) (by kernel_rfl) (by kernel_rfl) (fun _ _ _ h => h) (by kernel_rfl) (Ext.stable _) hCD (.inr ⟨by rfl, rfl⟩) ?_
          simp only [Act.put, List.setIfInBounds_toArray, List.set_cons_succ, List.set_cons_zero]
          refine anyU_takeP (i := 20) (j := 39) (v := undef) 84 [30, 29, 28, 27, 21] rfl rfl (by kernel_rfl) (by kernel_rfl) (by kernel_rfl) (fun _ _ _ h => h) (by kernel_rfl) (Ext.stable _) hCD (.inr ⟨by rfl, rfl⟩) ?_
          refine anyU_takeP (i := 21) (j := 39) (v := undef) 85 [30, 29, 28, 27] rfl rfl (by kernel_rfl) (by kernel_rfl) (by kernel_rfl) (fun _ _ _ h => h) (by kernel_rfl) (Ext.stable _) hCD (.inr ⟨by rfl, rfl⟩) ?_
          refine anyU_takeP (i := 22) (j := 39) (v := undef) 86 [30, 29, 28, 27, 26, 25] rfl rfl (by kernel_rfl) (by kernel_rfl) (by kernel_rfl) (fun _ _ _ h => h) (by kernel_rfl) (Ext.stable _) hCD (.inr ⟨by rfl, rfl⟩) ?_
          refine anyU_takeP (i := 23) (j := 39) (v := undef) 87 [30, 29, 28, 27, 26, 25, 24] rfl rfl (by kernel_rfl) (by kernel_rfl) (by kernel_rfl) (fun _ _ _ h => h) (by kernel_rfl) (Ext.stable _) hCD (.inr ⟨by rfl, rfl⟩) ?_
          refine anyU_takeP (i := 24) (j := 39) (v := undef) 88 [30, 29, 28, 27, 26, 25] rfl rfl (by kernel_rfl) (by kernel_rfl) (by kernel_rfl) (fun _ _ _ h => h) (by kernel_rfl) (Ext.stable _) hCD (.inr ⟨by rfl, rfl⟩) ?_
          simp only [Act.put, List.setIfInBounds_toArray, List.set_cons_succ, List.set_cons_zero]
          refine anyU_takeP (i := 25) (j := 39) (v := undef) 89 [30, 29, 28, 27, 26] rfl rfl (by kernel_rfl) (by kernel_rfl) (by kernel_rfl) (fun _ _ _ h => h) (by kernel_rfl) (Ext.stable _) hCD (.inr ⟨by rfl, rfl⟩) ?_
          refine anyU_takeP (i := 26) (j := 39) (v := undef) 90 [30, 29, 28, 27] rfl rfl (by kernel_rfl) (by kernel_rfl) (by kernel_rfl) (fun _ _ _ h => h) (by kernel_rfl) (Ext.stable _) hCD (.inr ⟨by rfl, rfl⟩) ?_
          refine anyU_takeP (i := 27) (j := 39) (v := undef) 91 [30, 29, 28] rfl rfl (by kernel_rfl) (by kernel_rfl) (by kernel_rfl) (fun _ _ _ h => h) (by kernel_rfl) (Ext.stable _) hCD (.inr ⟨by rfl, rfl⟩) ?_
          refine anyU_takeP (i := 28) (j := 39) (v := .bool false) 92 [30, 29] rfl rfl (by kernel_rfl) (by kernel_rfl) (by kernel_rfl) (fun _ _ _ h => h) (by kernel_rfl) (Ext.stable _) hCD (yieldsU_val rfl (fun u hu => by go_simp)) ?_
          refine anyU_takeP (i := 29) (j := 39) (v := .bool false) 93 [30] rfl rfl (by kernel_rfl) (by kernel_rfl) (by kernel_rfl) (fun _ _ _ h => h) (by kernel_rfl) (Ext.stable _) hCD (yieldsU_val rfl (fun u hu => by go_simp)) ?_
          simp only [Act.put, List.setIfInBounds_toArray, List.set_cons_succ, List.set_cons_zero]
          refine anyU_takeP (i := 30) (j := 39) (v := .bool false) 94 [] rfl rfl (by kernel_rfl) (by kernel_rfl) (by kernel_rfl) (fun _ _ _ h => h) (by kernel_rfl) (Ext.stable _) hCD (yieldsU_val rfl (fun u hu => by go_simp)) ?_
          refine anyU_takeP (i := 31) (j := 39) (v := .slice p n c) 95 [38, 37] rfl rfl (by kernel_rfl) (by kernel_rfl) (by kernel_rfl) (fun _ _ _ h => h) (by kernel_rfl) (Ext.stable _) hCD (yieldsU_val rfl (fun u hu => by go_simp)) ?_
          refine anyU_takeP (i := 32) (j := 39) (v := .slice q m d) 96 [38, 37] rfl rfl (by kernel_rfl) (by kernel_rfl) (by kernel_rfl) (fun _ _ _ h => h) (by kernel_rfl) (Ext.stable _) hCD (yieldsU_val rfl (fun u hu => by go_simp)) ?_
          refine anyU_takeP (i := 33) (j := 39) (v := .slice (some ⟨lb, lo, none⟩) L.length cl) 97 [38, 37, 36, 35] rfl rfl (by kernel_rfl) (by kernel_rfl) (by kernel_rfl) (fun _ _ _ h => h) (by kernel_rfl) (Ext.stable _) hCD (yieldsU_val rfl (fun u hu => by go_simp)) ?_
          refine anyU_takeP (i := 34) (j := 39) (v := .int .i64 (k : Int)) 98 [38, 37, 36, 35] rfl rfl (by kernel_rfl) (by kernel_rfl) (by kernel_rfl) (fun _ _ _ h => h) (by kernel_rfl) (Ext.stable _) hCD (yieldsU_val rfl (fun u hu => by go_simp)) ?_
          simp only [Act.put, List.setIfInBounds_toArray, List.set_cons_succ, List.set_cons_zero]
          refine anyU_takeP (i := 35) (j := 39) (v := .pointer (some ⟨lb, lo + k, none⟩)) 99 [38, 37, 36] rfl rfl (by kernel_rfl) (by kernel_rfl) (by kernel_rfl) (fun _ _ _ h => h) (by kernel_rfl) (Ext.stable _) hCD (yieldsU_val rfl (fun u hu => by go_simp)) ?_
          refine anyU_takeP (i := 36) (j := 39) (v := .int .i64 y) 100 [38, 37] rfl rfl (by kernel_rfl) (by kernel_rfl) (by kernel_rfl) (fun _ _ _ h => h) (by kernel_rfl) (Ext.stable _) hCD (yieldsU_val rfl (fun u hu => by have cc := (hu.cell (p := ⟨lb, lo + k, none⟩) hbV).trans CY.out; go_simp)) ?_
          refine anyU_takeP (i := 37) (j := 39) (v := .bool true) 101 [38] rfl rfl (by kernel_rfl) (by kernel_rfl) (by kernel_rfl) (fun _ _ _ h => h) (by kernel_rfl) (Ext.stable _) hCD (yieldsU_call rfl 17 _ _ rfl #[.slice p n c, .slice q m d, .int .i64 y] (by simp [Act.eval, Act.put]) (fun u => by go_simp) (fun u hu => CONT.out u hu)) ?_
          refine anyU_takeP (i := 38) (j := 39) (v := .bool false) 102 [] rfl rfl (by kernel_rfl) (by kernel_rfl) (by kernel_rfl) (fun _ _ _ h => h) (by kernel_rfl) (Ext.stable _) hCD (yieldsU_val rfl (fun u hu => by go_simp)) ?_
          simp only [Act.put, List.setIfInBounds_toArray, List.set_cons_succ, List.set_cons_zero]
          refine anyU_tail 39 [] rfl rfl (by decide) (by kernel_rfl) ?_
          intro u hu
          simp only [Act.put, List.filterMap_cons, List.filterMap_nil, List.getElem?_cons_succ, List.getElem?_cons_zero]
          have BU := Lib.hid (bel_trans BV.out hu)
          have DU := Lib.hid (bel_trans DV.out hu)
          have cu : u.cell? ⟨lb, lo + k, none⟩ = some (.int .i64 y) := (hu.cell (p := ⟨lb, lo + k, none⟩) hbV).trans CY.out
          clear hu CY BV DV CONT
          cases v with
          | true =>
            have MT := Lib.hid (show decide (x ∈ L.take (k + 1)) = true by rw [mem_take_snoc hlt HX.out HM.out]; rfl)
            go_wp2_with fail
            go_roundw
            case rel => exact ⟨k + 1, true, by omega, rfl, by simp, MT, BU, DU⟩
            case measure => simp [intOf]; omega
          | false =>
            by_cases hyx : y = x
            · have t9 : decide (y = x) = true := decide_eq_true hyx
              have t10 : (y == x) = true := by simpa using hyx
              have MT := Lib.hid (show decide (x ∈ L.take (k + 1)) = true by rw [mem_take_snoc hlt HX.out HM.out, t9]; rfl)
              clear hyx
              go_wp2_with fail
              go_roundw
              case rel => exact ⟨k + 1, true, by omega, rfl, by simp, MT, BU, DU⟩
              case measure => simp [intOf]; omega
            · have t9 : decide (y = x) = false := decide_eq_false hyx
              have t10 : (y == x) = false := by simpa using hyx
              have MT := Lib.hid (show decide (x ∈ L.take (k + 1)) = false by rw [mem_take_snoc hlt HX.out HM.out, t9]; rfl)
              clear hyx
              go_wp2_with fail
              go_roundw
              case rel => exact ⟨k + 1, false, by omega, rfl, by simp, MT, BU, DU⟩
              case measure => simp [intOf]; omega
      · have d3 : decide ((k : Int) < (L.length : Int)) = false := decide_eq_false (by omega)
        have hmv : decide (x ∈ L) = v := by have h := HM.out; rwa [List.take_of_length_le (by omega)] at h
        by_cases h1 : a ≤ x
        · have t1 : decide (a ≤ x) = true := decide_eq_true h1
          by_cases h2 : x < b
          · have t2 : decide (x < b) = true := decide_eq_true h2
            have HV := Lib.hid (show depB rs gs x = v by
              rw [← hmv]
              cases hd : depB rs gs x with
              | true => exact (decide_eq_true ((HME.out x).2 ⟨h1, h2, hd⟩)).symm
              | false => exact (decide_eq_false (fun h => by have := ((HME.out x).1 h).2.2; rw [hd] at this; cases this)).symm)
            clear hmv HM
            go_wp2_with (go_at_call 17; (with_reducible refine (rdep_is p n c rs q m d gs x v wr RR GR HVV (by omega) (by omega) HV).mono ?_); rintro e w5 ⟨rfl, hb⟩; have B5 := Lib.hid (bel_trans HB.out hb); clear hb)
            go_ret
            exact ⟨by simp, B5.out⟩
          · have t2 : decide (x < b) = false := decide_eq_false h2
            obtain rfl : v = false := by rw [← hmv]; exact decide_eq_false (fun h => h2 ((HME.out x).1 h).2.1)
            clear hmv HM
            go_wp2_with fail
            go_ret
            exact ⟨rfl, HB.out⟩
        · have t1 : decide (a ≤ x) = false := decide_eq_false h1
          obtain rfl : v = false := by rw [← hmv]; exact decide_eq_false (fun h => h1 ((HME.out x).1 h).1)
          clear hmv HM
          go_wp2_with fail
          go_ret
          exact ⟨rfl, HB.out⟩

namespace calendarMoments
theorem readable : ∀ t ∈ Try.f5.params.toList, Try.prog.readableRec t = true ∧ t < Try.prog.types.size := by
  rw [Try.params5]
  intro t ht
  simp only [List.mem_cons, List.not_mem_nil, or_false] at ht
  rcases ht with rfl | rfl | rfl | rfl | rfl
  all_goals exact ⟨by kernel_rfl, by decide +kernel⟩

set_option maxRecDepth 100000 in
theorem lifted (os : Os) (started : os.Started) (H : Type) (enc : TypeId × Value → H) :
    ReturnsInHanded {} Try.checked os 5 .any (Rows.calendarMomentsSpec.pre6 enc Try.prog Try.f5 Rows.calendarMomentsRow.domain false) (Rows.calendarMomentsSpec.post enc Try.prog Try.f5 false true false false) := by
  refine returnsInHanded_of_change (C := Try.checked) own_knob started (by kernel_rfl) Try.func5
    (ChangeSpec.witness6 (enc := enc) (C := Try.checked) false ⟨#[], #[.slice none 0 0, .slice none 0 0, .int .i64 0, .int .i64 0, .int .i64 0], []⟩ 8 (by kernel_rfl) (by kernel_rfl) (by kernel_rfl) (by kernel_rfl)) ?_
  intro W base args ds gs before hval0 hW hcnd _
  have hval : ∀ (j : Nat) t v, Try.f5.params[j]? = some t → args[j]? = some v → Value.okWide Try.prog W .any base t v := hval0
  have hW' := hW
  obtain ⟨p, q, hA0, hV, rfl, hfz, hnd⟩ := hW
  have hA : DataW.TrodAll enc Try.prog W 0 (fun _ => true) true Try.f5.params.toList args.toList ds p := hA0
  rw [Try.params5] at hA hval
  obtain ⟨v0, vs0, d0, ds0, p0, q0, hargs, rfl, rfl, h0, r0⟩ := trodAll_cons hA
  obtain ⟨v1, vs1, d1, ds1, p1, q1, rfl, rfl, rfl, h1, r1⟩ := trodAll_cons r0
  obtain ⟨v2, vs2, d2, ds2, p2, q2, rfl, rfl, rfl, h2, r2⟩ := trodAll_cons r1
  obtain ⟨v3, vs3, d3, ds3, p3, q3, rfl, rfl, rfl, h3, r3⟩ := trodAll_cons r2
  obtain ⟨v4, vs4, d4, ds4, p4, q4, rfl, rfl, rfl, h4, r4⟩ := trodAll_cons r3
  obtain ⟨rfl, rfl, rfl⟩ := trodAll_nil r4
  obtain rfl : args = #[v0, v1, v2, v3, v4] := by cases args; simp_all
  obtain ⟨rfl, rfl⟩ := trodVars_none hV
  obtain ⟨p0, n0, c0, l0, rfl, hk0⟩ := open_rules (hval 0 22 v0 rfl rfl) h0
  obtain ⟨p1, n1, c1, l1, rfl, hk1⟩ := open_gaps (hval 1 23 v1 rfl rfl) h1
  obtain ⟨a2, rfl, rfl, rfl, w2⟩ := open_int Try.underlying3 (hval 2 3 v2 rfl rfl) h2
  obtain ⟨a3, rfl, rfl, rfl, w3⟩ := open_int Try.underlying3 (hval 3 3 v3 rfl rfl) h3
  obtain ⟨a4, rfl, rfl, rfl, w4⟩ := open_int Try.underlying3 (hval 4 3 v4 rfl rfl) h4
  clear hA0 hval0
  refine (calendarMoments_walk p0 n0 c0 l0 p1 n1 c1 l1 a2 a3 a4 _ (Lib.hid hk0) (Lib.hid hk1)).mono fun e W' ⟨he, hb⟩ => ?_
  subst he
  exact ⟨_, rfl, law_post laid_out readable rfl rfl Try.underlying4 hW' rfl rfl rfl hb⟩

theorem over : Rows.calendarMomentsRow.holds Try.pinned (OpenSpec.ofChange Rows.calendarMomentsSpec) :=
  OpenClaim.holds_of_wide 5 Try.f5 rfl rfl rfl rfl rfl rfl rfl ⟨rfl, rfl, rfl, rfl, rfl⟩ rfl rfl rfl rfl rfl (by kernel_rfl) Try.func5 (by kernel_rfl)
    (of_decide_eq_true (by kernel_rfl)) (by unfold Func.isWrapper; first | (rw [if_pos (by decide +kernel)]; kernel_rfl) | (rw [if_neg (by decide +kernel)]; exact ⟨rfl, rfl⟩))
    (fun os started H enc _ => lifted os started H enc)

/-- the statement -/
theorem proved : Rows.CalendarMomentsSaid := over
end calendarMoments
end Go.Proofs.Ytilokkkodocoiaa
