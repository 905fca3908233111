/- The reference's codec on lists of atoms. -/
import Derived.Test.YtllcgehfmkmcdaaDoorCodZ
import Derived.Test.YtllcgehfmkmcdaaDoorRegU
namespace Go.Proofs.YtllcgehfmkmcdaaDoor
open Go.RowKit
set_option linter.unusedVariables false
set_option linter.unusedSimpArgs false

theorem one_own (w : World) (x : Int) : Own8 (w.alloc (.cells #[.int .u8 x] 5)) w.heap.size (.slice (some ⟨w.heap.size, 0, none⟩) 1 1) [x] :=
  ⟨rfl, .inr ⟨w.heap.size, 1, #[.int .u8 x], rfl, Nat.le_refl _, heap_alloc_new w _, Nat.le_refl _, by unfold maxLen; omega, rfl, rfl⟩⟩
set_option maxRecDepth 100000 in
set_option maxHeartbeats 1000000 in
theorem rnumeral_any (u : Nat) : ∀ (w : World), u < 18446744073709551616 → Calls Tryd.prog 59 #[.int .u64 u] w fun e w' => ∃ v', e = .returned v' ∧ Own8 w' w.heap.size v' (numL u) ∧ Below w.heap.size w w' := by
  induction u using Nat.strongRecOn with
  | _ u ih =>
    intro w hu
    by_cases h : u < 128
    · have O1 := Lib.hid (one_own w (u : Int))
      go_enter Tryd.func59, Tryd.ntmps59
      go_wp2_with fail
      go_ret
      exact ⟨_, rfl, by rw [numL_lt h]; exact O1.out, bel_alloc1 w _⟩
    · have ih' := Lib.hid (ih (u / 128) (by omega))
      have hlen := numL_len u 10 (by simp; omega) (by omega)
      have hq := numL_ge h
      have HQ := Lib.hid hq
      have hq2 : (numL (u / 128)).length ≤ 10 := by rw [hq] at hlen; simp at hlen; omega
      clear hq ih hlen
      have O1 := Lib.hid (one_own w ((u : Int) % 128 + 128))
      go_enter Tryd.func59, Tryd.ntmps59
      go_wp2_with (first
        | (go_at_call 59; refine (ih'.out _ (by omega)).mono ?_; rintro e u1 ⟨v1, rfl, o1, b1⟩; obtain ⟨p1, c1, rfl, s1, hc1, hm1, hp1⟩ := own8_src o1; have S1 := Lib.hid s1; have B1 := Lib.hid b1; have O2 := Lib.hid (own8_below O1.out b1); clear s1 o1 b1 hp1)
        | (at_builtin; refine app8 rfl (.tmp 12) (.tmp 15) rfl w.heap.size (.slice (some ⟨w.heap.size, 0, none⟩) 1 1) [(u : Int) % 128 + 128] rfl O2.out p1 _ c1 (numL (u / 128)) rfl S1.out (by simp; omega) (by have := B1.out.size; simp at this; omega) ?_; intro v2 u2 o2 g2; have O3 := Lib.hid o2; have K3 := Lib.hid (bel_grown8 (bel_trans (bel_alloc1 w _) B1.out) O2.out g2 (by have := B1.out.size; simp at this; omega)); clear o2 g2))
      go_ret
      refine ⟨v2, rfl, ?_, K3.out⟩
      rw [HQ.out, show (((u % 128 + 128 : Nat)) : Int) = (u : Int) % 128 + 128 by omega]
      exact O3.out
set_option maxHeartbeats 400000 in
theorem runsigned_pos (n : Nat) (w : World) (hn : n < 9223372036854775808) : Calls Tryd.prog 60 #[.int .i64 n] w fun e w' => e = .returned (.int .u64 ((2 * n : Nat) : Int)) ∧ w = w' := by
  go_enter Tryd.func60, Tryd.ntmps60
  go_wp2
  go_ret
  have e2 : (2 : Int) * (n : Int) = ((2 * n : Nat) : Int) := by omega
  exact ⟨congrArg (fun z => Ending.returned (Value.int IntKind.u64 z)) e2, rfl⟩
set_option maxHeartbeats 400000 in
theorem runsigned_neg (n : Int) (w : World) (h0 : n < 0) (h1 : -9223372036854775808 ≤ n) : Calls Tryd.prog 60 #[.int .i64 n] w fun e w' => e = .returned (.int .u64 ((-2 * n - 1).toNat : Int)) ∧ w = w' := by
  go_enter Tryd.func60, Tryd.ntmps60
  go_wp2
  go_ret
  have e2 : 2 * -(n + 1) + 1 = ((-2 * n - 1).toNat : Int) := by omega
  exact ⟨congrArg (fun z => Ending.returned (Value.int IntKind.u64 z)) e2, rfl⟩
theorem runsigned_any (n : Int) (w : World) (hn : inR n) : Calls Tryd.prog 60 #[.int .i64 n] w fun e w' => e = .returned (.int .u64 (zig n : Int)) ∧ w = w' := by
  obtain ⟨h1, h2⟩ := hn
  rcases Int.lt_or_le n 0 with h | h
  · have := runsigned_neg n w h h1
    unfold zig
    rw [if_neg (by omega)]
    exact this
  · obtain ⟨m, rfl⟩ := Int.eq_ofNat_of_zero_le h
    have := runsigned_pos m w (by omega)
    unfold zig
    rw [if_pos (by omega), show (2 * (m : Int)).toNat = 2 * m by omega]
    exact this
theorem rformed_atom (a : Atom) (w : World) : Calls Tryd.prog 57 #[.agg #[.int .i64 a.kind, .int .i64 a.num, .string a.str, .slice none 0 0]] w fun e w' => e = .returned (.bool true) ∧ Below w.heap.size w w' := by
  cases a with
  | int n =>
    dsimp only [Atom.kind, Atom.num, Atom.str]
    go_enter Tryd.func57, Tryd.ntmps57
    go_wp2_with fail
    go_ret
    exact ⟨rfl, bel_alloc1 w _⟩
  | text s =>
    dsimp only [Atom.kind, Atom.num, Atom.str]
    go_enter Tryd.func57, Tryd.ntmps57
    go_wp2_with fail
    go_ret
    exact ⟨rfl, bel_alloc1 w _⟩
theorem rdepth_atom (a : Atom) (w : World) : Calls Tryd.prog 58 #[.agg #[.int .i64 a.kind, .int .i64 a.num, .string a.str, .slice none 0 0]] w fun e w' => e = .returned (.int .i64 0) ∧ Below w.heap.size w w' := by
  cases a with
  | int n =>
    dsimp only [Atom.kind, Atom.num, Atom.str]
    go_enter Tryd.func58, Tryd.ntmps58
    go_wp2_with fail
    go_ret
    exact ⟨rfl, bel_alloc1 w _⟩
  | text s =>
    dsimp only [Atom.kind, Atom.num, Atom.str]
    go_enter Tryd.func58, Tryd.ntmps58
    go_wp2_with fail
    go_ret
    exact ⟨rfl, bel_alloc1 w _⟩
set_option maxRecDepth 100000 in
set_option maxHeartbeats 2000000 in
theorem rformed_list (l : List Atom) (b o n cap : Nat) (w : World) (hn : Hid (n = l.length)) (hm : n ≤ 1000000) (hb : b < w.heap.size) (hl : Hid (AtomsAt w b o l)) :
    Calls Tryd.prog 57 #[.agg #[.int .i64 3, .int .i64 0, .string ⟨#[]⟩, .slice (some ⟨b, o, none⟩) n cap]] w fun e w' => e = .returned (.bool true) ∧ Below w.heap.size w w' := by
  go_enter Tryd.func57, Tryd.ntmps57
  go_wp2_with fail
  go_loopw [3] (fun i wr => ∃ k : Nat, k ≤ n ∧ i = .int .i64 k ∧ Hid (Blk wr w.heap.size #[.int .i64 3, .int .i64 0, .string ⟨#[]⟩, .slice (some ⟨b, o, none⟩) n cap] 54) ∧ Hid (Below w.heap.size w wr)) (fun i _ => n - (intOf i).toNat) 
  case atStart => exact ⟨0, by omega, rfl, Lib.hid (Blk.new w _ _), Lib.hid (bel_alloc1 w _)⟩
  case round =>
    obtain ⟨k, hk, rfl, HV, HB⟩ := hrel
    have f3 := HV.out.cell 3
    by_cases hlt : k < n
    · have hbr : b < wr.heap.size := Nat.lt_of_lt_of_le hb HB.out.size
      obtain ⟨c0, c1, c2, c3⟩ := hl.out.below HB.out hb k (by rw [← hn.out]; exact hlt)
      obtain ⟨at', hx⟩ : ∃ x, l.getD k (.int 0) = x := ⟨_, rfl⟩
      rw [hx] at c0 c1 c2
      clear hx
      go_wp2_with (go_at_call 57; refine (rformed_atom at' _).mono ?_; rintro e u1 ⟨rfl, hbw⟩)
      refine ⟨⟨k + 1, by omega, by simp, Lib.hid (HV.out.below hbw HV.out.lt), Lib.hid (bel_trans HB.out hbw)⟩, ?_⟩
      simp only [intOf]; omega
    · have f1 := HV.out.cell 1
      have f2 := HV.out.cell 2
      go_wp2_with fail
      go_ret
      exact ⟨rfl, HB.out⟩
set_option maxRecDepth 100000 in
set_option maxHeartbeats 2000000 in
theorem rdepth_list (l : List Atom) (b o n cap : Nat) (w : World) (hn : Hid (n = l.length)) (hm : n ≤ 1000000) (hb : b < w.heap.size) (hl : Hid (AtomsAt w b o l)) :
    Calls Tryd.prog 58 #[.agg #[.int .i64 3, .int .i64 0, .string ⟨#[]⟩, .slice (some ⟨b, o, none⟩) n cap]] w fun e w' => e = .returned (.int .i64 1) ∧ Below w.heap.size w w' := by
  go_enter Tryd.func58, Tryd.ntmps58
  go_wp2_with fail
  go_loopw [3, 4] (fun x i wr => ∃ k : Nat, k ≤ n ∧ i = .int .i64 k ∧ x = .int .i64 0 ∧ Hid (Blk wr w.heap.size #[.int .i64 3, .int .i64 0, .string ⟨#[]⟩, .slice (some ⟨b, o, none⟩) n cap] 54) ∧ Hid (Below w.heap.size w wr)) (fun _ i _ => n - (intOf i).toNat) 
  case atStart => exact ⟨0, by omega, rfl, rfl, Lib.hid (Blk.new w _ _), Lib.hid (bel_alloc1 w _)⟩
  case round =>
    obtain ⟨k, hk, rfl, rfl, HV, HB⟩ := hrel
    have f3 := HV.out.cell 3
    by_cases hlt : k < n
    · have hbr : b < wr.heap.size := Nat.lt_of_lt_of_le hb HB.out.size
      obtain ⟨c0, c1, c2, c3⟩ := hl.out.below HB.out hb k (by rw [← hn.out]; exact hlt)
      obtain ⟨at', hx⟩ : ∃ x, l.getD k (.int 0) = x := ⟨_, rfl⟩
      rw [hx] at c0 c1 c2
      clear hx
      go_wp2_with (go_at_call 58; refine (rdepth_atom at' _).mono ?_; rintro e u1 ⟨rfl, hbw⟩)
      refine ⟨⟨k + 1, by omega, by simp, rfl, Lib.hid (HV.out.below hbw HV.out.lt), Lib.hid (bel_trans HB.out hbw)⟩, ?_⟩
      simp only [intOf]; omega
    · go_wp2_with fail
      go_ret
      exact ⟨rfl, HB.out⟩
set_option maxRecDepth 100000 in
set_option maxHeartbeats 2000000 in
theorem rcheck_list (l : List Atom) (b o n cap : Nat) (w : World) (hn : Hid (n = l.length)) (hm : n ≤ 1000000) (hb : b < w.heap.size) (hl : Hid (AtomsAt w b o l)) :
    Calls Tryd.prog 48 #[.agg #[.int .i64 3, .int .i64 0, .string ⟨#[]⟩, .slice (some ⟨b, o, none⟩) n cap]] w fun e w' => e = .returned (.int .i64 0) ∧ Below w.heap.size w w' := by
  have HB0 := Lib.hid (bel_alloc1 w (.cells #[.int .i64 3, .int .i64 0, .string ⟨#[]⟩, .slice (some ⟨b, o, none⟩) n cap] 54))
  have V0 := Lib.hid (Blk.new w #[.int .i64 3, .int .i64 0, .string ⟨#[]⟩, .slice (some ⟨b, o, none⟩) n cap] 54)
  go_enter Tryd.func48, Tryd.ntmps48
  go_wp2_with (first
    | (go_at_call 57; refine (rformed_list l b o n cap _ hn hm (Nat.lt_of_lt_of_le hb HB0.out.size) (Lib.hid (hl.out.below HB0.out hb))).mono ?_; rintro e u1 ⟨rfl, hb1⟩; have V1 := V0.out.below hb1 V0.out.lt; have f0 := V1.cell 0; have f1 := V1.cell 1; have f2 := V1.cell 2; have f3 := V1.cell 3; have HB1 := Lib.hid (bel_trans HB0.out hb1))
    | (go_at_call 58; refine (rdepth_list l b o n cap _ hn hm (Nat.lt_of_lt_of_le hb HB1.out.size) (Lib.hid (hl.out.below HB1.out hb))).mono ?_; rintro e u2 ⟨rfl, hb2⟩))
  go_ret
  exact ⟨rfl, bel_trans HB1.out hb2⟩
set_option maxRecDepth 100000 in
set_option maxHeartbeats 2000000 in
theorem rencode_int (n : Int) (w : World) (hn : inR n) :
    Calls Tryd.prog 49 #[.agg #[.int .i64 1, .int .i64 n, .string ⟨#[]⟩, .slice none 0 0]] w fun e w' => ∃ v', e = .returned v' ∧ Own8 w' w.heap.size v' (1 :: numL (zig n)) ∧ Below w.heap.size w w' := by
  obtain ⟨W1, hW1⟩ : ∃ W1, W1 = w.alloc (.cells #[.int .i64 1, .int .i64 n, .string ⟨#[]⟩, .slice none 0 0] 54) := ⟨_, rfl⟩
  have O1 := Lib.hid (one_own W1 1)
  have BW := Lib.hid (show Below w.heap.size w (W1.alloc (.cells #[.int .u8 1] 5)) by rw [hW1]; exact (bel_alloc1 w _).alloc (by simp) _)
  have hwW : W1.heap.size = w.heap.size + 1 := by rw [hW1]; simp
  have hlen := numL_len (zig n) 10 (by have := zig_lt hn; simp; omega) (by omega)
  go_enter Tryd.func49, Tryd.ntmps49
  go_wp2_with (first
    | (go_at_call 60; refine (runsigned_any n _ hn).mono ?_; rintro e w' ⟨rfl, rfl⟩)
    | (go_at_call 59; rw [← hW1]; refine (rnumeral_any (zig n) _ (zig_lt hn)).mono ?_; rintro e u1 ⟨v1, rfl, o1, b1⟩; obtain ⟨p1, c1, rfl, s1, hc1, hm1, hp1⟩ := own8_src o1; have S1 := Lib.hid s1; have B1 := Lib.hid (bel_trans BW.out b1); have O2 := Lib.hid (own8_below O1.out b1); have L1 : W1.heap.size ≤ u1.heap.size := (by have := b1.size; simp at this; omega); rw [hwW] at O2 L1; clear s1 o1 b1 hp1)
    | (at_builtin; refine app8 rfl (.tmp 9) (.tmp 13) rfl (w.heap.size + 1) (.slice (some ⟨w.heap.size + 1, 0, none⟩) 1 1) [1] rfl O2.out p1 _ c1 (numL (zig n)) rfl S1.out (by simp; omega) L1 ?_; intro v2 u2 o2 g2; have O3 := Lib.hid (own8_mono o2 (show w.heap.size ≤ w.heap.size + 1 by omega)); have K3 := Lib.hid (bel_grown8 B1.out (own8_mono O2.out (show w.heap.size ≤ w.heap.size + 1 by omega)) g2 (by omega)); clear o2 g2))
  go_ret
  exact ⟨v2, rfl, O3.out, K3.out⟩
set_option maxRecDepth 100000 in
set_option maxHeartbeats 4000000 in
theorem rencode_text (s : ByteArray) (w : World) (hs : s.size ≤ 1000000000) :
    Calls Tryd.prog 49 #[.agg #[.int .i64 2, .int .i64 0, .string s, .slice none 0 0]] w fun e w' => ∃ v', e = .returned v' ∧ Own8 w' w.heap.size v' (2 :: (numL s.size ++ strL s)) ∧ Below w.heap.size w w' := by
  go_enter Tryd.func49, Tryd.ntmps49
  go_wp2_with fail
  refine wp_region_any (by kernel_rfl) ?_
  change wpAny _ _ _ _ _ _ _ (World.drew _)
  generalize hWD : World.drew _ = W
  have BX := Lib.hid (show Blk W w.heap.size #[.int .i64 2, .int .i64 0, .string s, .slice none 0 0] 54 by rw [← hWD]; exact Blk.new w _ _)
  have EW := Lib.hid (show Below w.heap.size w W by rw [← hWD]; exact (bel_alloc1 w _).drew)
  clear hWD
  have hCD : ∀ u, Ext W u → Ext W u := fun u hu => hu
  have HW : Hid (IntKind.u64.wrap (s.size : Int) = (s.size : Int)) := Lib.hid (by rw [IntKind.wrap_u64]; omega)
  have hwW : w.heap.size ≤ W.heap.size := EW.out.size
  have hlen := numL_len s.size 9 (by simp; omega) (by omega)
  refine region_U (D := Ext W) (Ext W) [9, 10] (Ext.refl W) ?_
  refine anyU_takeD (i := 1) (v := .pointer (some ⟨w.heap.size, 2, none⟩)) 18 rfl rfl (by kernel_rfl) (by kernel_rfl) (by kernel_rfl) (fun _ _ _ h => h) (by kernel_rfl) (Ext.stable _) hCD (yieldsU_val rfl (fun u hu => by go_simp)) ?_
  refine anyU_takeD (i := 2) (v := .string s) 19 rfl rfl (by kernel_rfl) (by kernel_rfl) (by kernel_rfl) (fun _ _ _ h => h) (by kernel_rfl) (Ext.stable _) hCD (yieldsU_val rfl (fun u hu => by have c := (BX.out.below hu BX.out.lt).cell 2; go_simp)) ?_
  refine anyU_takeD (i := 3) (v := .int .i64 (s.size : Int)) 20 rfl rfl (by kernel_rfl) (by kernel_rfl) (by kernel_rfl) (fun _ _ _ h => h) (by kernel_rfl) (Ext.stable _) hCD (yieldsU_val rfl (fun u hu => by go_simp)) ?_
  refine anyU_takeD (i := 4) (v := .int .u64 (s.size : Int)) 21 rfl rfl (by kernel_rfl) (by kernel_rfl) (by kernel_rfl) (fun _ _ _ h => h) (by kernel_rfl) (Ext.stable _) hCD (yieldsU_val rfl (fun u hu => by go_simp; rw [HW.out])) ?_
  refine anyU_takeD (i := 7) (v := .pointer (some ⟨w.heap.size, 2, none⟩)) 24 rfl rfl (by kernel_rfl) (by kernel_rfl) (by kernel_rfl) (fun _ _ _ h => h) (by kernel_rfl) (Ext.stable _) hCD (yieldsU_val rfl (fun u hu => by go_simp)) ?_
  refine anyU_takeD (i := 8) (v := .string s) 25 rfl rfl (by kernel_rfl) (by kernel_rfl) (by kernel_rfl) (fun _ _ _ h => h) (by kernel_rfl) (Ext.stable _) hCD (yieldsU_val rfl (fun u hu => by have c := (BX.out.below hu BX.out.lt).cell 2; go_simp)) ?_
  simp only [Act.put, List.setIfInBounds_toArray, List.set_cons_succ, List.set_cons_zero]
  refine anyU_two 0 5 4 _ _ rfl rfl (by kernel_rfl) (by kernel_rfl) (by kernel_rfl) ?_ ?_
  · intro u1 hu
    go_wp2_with fail
    change ∃ C' : World → Prop, _ ∧ _ ∧ _ ∧ anyU _ _ _ _ _ _ 4 _ _ _
    have O1 := Lib.hid (own8_mono (one_own u1 2) hu.size)
    have E1 := Lib.hid (Ext.trans hu (bel_alloc1 u1 (.cells #[.int .u8 2] 5)))
    generalize World.alloc u1 _ = u2 at O1 E1 ⊢
    generalize u1.heap.size = bb at O1 ⊢
    clear hu
    refine anchorF (fun z => Ext W z ∧ Own8 z W.heap.size (.slice (some ⟨bb, 0, none⟩) 1 1) [2]) (fun z hz => hz.1) ((Ext.stable W).and (fun z z' h k => own8_below h k)) ⟨E1.out, O1.out⟩ ?_
    (try simp only [Act.put])
    refine anyU_one 5 3 _ rfl rfl (by kernel_rfl) ?_
    intro u3 hu3
    go_wp2_with fail
    refine (rnumeral_any s.size u3 (by omega)).mono ?_
    rintro e u4 ⟨v1, rfl, o1, b1⟩
    obtain ⟨p1, c1, rfl, s1, hc1, hm1, hp1⟩ := own8_src o1
    have X4 := Lib.hid (Ext.trans hu3.1 b1)
    have O4 := Lib.hid (own8_below hu3.2 b1)
    have S4 := Lib.hid s1
    clear o1 b1 s1 hp1 hu3
    go_wp2_with fail
    change ∃ C' : World → Prop, _ ∧ _ ∧ _ ∧ anyU _ _ _ _ _ _ 3 _ _ _
    refine anchorF (fun z => Ext W z ∧ Own8 z W.heap.size (.slice (some ⟨bb, 0, none⟩) 1 1) [2] ∧ SrcV z p1 (numL s.size).length c1 (numL s.size)) (fun z hz => hz.1) ((Ext.stable W).and (Stable.and (fun z z' h k => own8_below h k) (fun z z' h k => h.below k))) ⟨X4.out, O4.out, S4.out⟩ ?_
    (try simp only [Act.put])
    refine anyU_one 6 2 _ rfl rfl (by kernel_rfl) ?_
    intro u3 hu3
    obtain ⟨x3, o3, s3⟩ := hu3
    refine app8 rfl (.tmp 17) (.tmp 22) rfl W.heap.size (.slice (some ⟨bb, 0, none⟩) 1 1) [2] rfl o3 p1 _ c1 (numL s.size) rfl s3 (by simp; omega) x3.size ?_
    intro v4 u4 o4 g4
    have O4 := Lib.hid o4
    have K4 := Lib.hid (show Ext W u4 from bel_grown8 x3 o3 g4 x3.size)
    clear o4 g4 x3 o3 s3
    change ∃ C' : World → Prop, _ ∧ _ ∧ _ ∧ anyU _ _ _ _ _ _ 2 _ _ _
    refine anchorF (fun z => Ext W z ∧ Own8 z W.heap.size v4 ([2] ++ numL s.size)) (fun z hz => hz.1) ((Ext.stable W).and (fun z z' h k => own8_below h k)) ⟨K4.out, O4.out⟩ ?_
    (try simp only [Act.put])
    refine anyU_tail 9 [10] rfl rfl (by decide) (by kernel_rfl) ?_
    intro u5 hu5
    simp only [Act.put, List.filterMap_cons, List.filterMap_nil, List.getElem?_cons_succ, List.getElem?_cons_zero]
    obtain ⟨x5, o5⟩ := hu5
    refine appS8 rfl (.tmp 23) (.tmp 25) rfl W.heap.size v4 ([2] ++ numL s.size) rfl o5 s rfl (by simp; omega) x5.size ?_
    intro v6 u6 o6 g6
    have O6 := Lib.hid (own8_mono o6 hwW)
    have K6 := Lib.hid (EW.out.trans ((bel_grown8 x5 o5 g6 x5.size).mono hwW))
    clear o6 g6 x5 o5
    go_wp2_with fail
    go_ret
    refine ⟨v6, rfl, ?_, K6.out⟩
    have h := O6.out
    rw [List.append_assoc] at h
    exact h
  · intro u1 hu
    go_wp2_with fail
    refine (rnumeral_any s.size u1 (by omega)).mono ?_
    rintro e u4 ⟨v1, rfl, o1, b1⟩
    obtain ⟨p1, c1, rfl, s1, hc1, hm1, hp1⟩ := own8_src o1
    have X4 := Lib.hid (Ext.trans hu b1)
    have S4 := Lib.hid s1
    clear o1 b1 s1 hp1 hu
    go_wp2_with fail
    change ∃ C' : World → Prop, _ ∧ _ ∧ _ ∧ anyU _ _ _ _ _ _ 4 _ _ _
    refine anchorF (fun z => Ext W z ∧ SrcV z p1 (numL s.size).length c1 (numL s.size)) (fun z hz => hz.1) ((Ext.stable W).and (fun z z' h k => h.below k)) ⟨X4.out, S4.out⟩ ?_
    (try simp only [Act.put])
    refine anyU_one 0 3 _ rfl rfl (by kernel_rfl) ?_
    intro u5 hu5
    go_wp2_with fail
    change ∃ C' : World → Prop, _ ∧ _ ∧ _ ∧ anyU _ _ _ _ _ _ 3 _ _ _
    have O1 := Lib.hid (own8_mono (one_own u5 2) hu5.1.size)
    have E1 := Lib.hid (Ext.trans hu5.1 (bel_alloc1 u5 (.cells #[.int .u8 2] 5)))
    have S5 := Lib.hid (hu5.2.below (bel_alloc1 u5 (.cells #[.int .u8 2] 5)))
    generalize World.alloc u5 _ = u2 at O1 E1 S5 ⊢
    generalize u5.heap.size = bb at O1 ⊢
    clear hu5
    refine anchorF (fun z => Ext W z ∧ Own8 z W.heap.size (.slice (some ⟨bb, 0, none⟩) 1 1) [2] ∧ SrcV z p1 (numL s.size).length c1 (numL s.size)) (fun z hz => hz.1) ((Ext.stable W).and (Stable.and (fun z z' h k => own8_below h k) (fun z z' h k => h.below k))) ⟨E1.out, O1.out, S5.out⟩ ?_
    (try simp only [Act.put])
    refine anyU_one 6 2 _ rfl rfl (by kernel_rfl) ?_
    intro u3 hu3
    obtain ⟨x3, o3, s3⟩ := hu3
    refine app8 rfl (.tmp 17) (.tmp 22) rfl W.heap.size (.slice (some ⟨bb, 0, none⟩) 1 1) [2] rfl o3 p1 _ c1 (numL s.size) rfl s3 (by simp; omega) x3.size ?_
    intro v4 u4 o4 g4
    have O4 := Lib.hid o4
    have K4 := Lib.hid (show Ext W u4 from bel_grown8 x3 o3 g4 x3.size)
    clear o4 g4 x3 o3 s3
    change ∃ C' : World → Prop, _ ∧ _ ∧ _ ∧ anyU _ _ _ _ _ _ 2 _ _ _
    refine anchorF (fun z => Ext W z ∧ Own8 z W.heap.size v4 ([2] ++ numL s.size)) (fun z hz => hz.1) ((Ext.stable W).and (fun z z' h k => own8_below h k)) ⟨K4.out, O4.out⟩ ?_
    (try simp only [Act.put])
    refine anyU_tail 9 [10] rfl rfl (by decide) (by kernel_rfl) ?_
    intro u5 hu5
    simp only [Act.put, List.filterMap_cons, List.filterMap_nil, List.getElem?_cons_succ, List.getElem?_cons_zero]
    obtain ⟨x5, o5⟩ := hu5
    refine appS8 rfl (.tmp 23) (.tmp 25) rfl W.heap.size v4 ([2] ++ numL s.size) rfl o5 s rfl (by simp; omega) x5.size ?_
    intro v6 u6 o6 g6
    have O6 := Lib.hid (own8_mono o6 hwW)
    have K6 := Lib.hid (EW.out.trans ((bel_grown8 x5 o5 g6 x5.size).mono hwW))
    clear o6 g6 x5 o5
    go_wp2_with fail
    go_ret
    refine ⟨v6, rfl, ?_, K6.out⟩
    have h := O6.out
    rw [List.append_assoc] at h
    exact h
theorem rencode_atom (a : Atom) (ha : a.ok) (w : World) : Calls Tryd.prog 49 #[.agg #[.int .i64 a.kind, .int .i64 a.num, .string a.str, .slice none 0 0]] w fun e w' => ∃ v', e = .returned v' ∧ Own8 w' w.heap.size v' a.enc ∧ Below w.heap.size w w' := by
  cases a with
  | int n =>
    exact rencode_int n w ha
  | text s =>
    have h := rencode_text (strB s) w (by rw [strB_size]; exact ha.1)
    rw [strL_strB ha.2, strB_size] at h
    exact h
set_option maxRecDepth 100000 in
set_option maxHeartbeats 2000000 in
theorem rencode_list (l : List Atom) (b o n cap : Nat) (w : World) (hn : Hid (n = l.length)) (hm : n ≤ 1000000) (hok : Hid (∀ a ∈ l, a.ok)) (hb : b < w.heap.size) (hl : Hid (AtomsAt w b o l)) (hx : Hid (60 + lenA l ≤ 2000000000)) :
    Calls Tryd.prog 49 #[.agg #[.int .i64 3, .int .i64 0, .string ⟨#[]⟩, .slice (some ⟨b, o, none⟩) n cap]] w fun e w' => ∃ v', e = .returned v' ∧ Own8 w' w.heap.size v' (encL l) ∧ Below w.heap.size w w' := by
  obtain ⟨W1, hW1⟩ : ∃ W1, W1 = w.alloc (.cells #[.int .i64 3, .int .i64 0, .string ⟨#[]⟩, .slice (some ⟨b, o, none⟩) n cap] 54) := ⟨_, rfl⟩
  have O1 := Lib.hid (one_own W1 3)
  have hwW : W1.heap.size = w.heap.size + 1 := by rw [hW1]; simp
  have BW := Lib.hid (show Below w.heap.size w (W1.alloc (.cells #[.int .u8 3] 5)) by rw [hW1]; exact (bel_alloc1 w _).alloc (by simp) _)
  have VW := Lib.hid (show Blk (W1.alloc (.cells #[.int .u8 3] 5)) w.heap.size #[.int .i64 3, .int .i64 0, .string ⟨#[]⟩, .slice (some ⟨b, o, none⟩) n cap] 54 by rw [hW1]; exact (Blk.new w _ _).alloc _)
  have hlen := numL_len n 9 (by simp; omega) (by omega)
  go_enter Tryd.func49, Tryd.ntmps49
  go_wp2_with (first
    | (go_at_call 59; rw [← hW1]; refine (rnumeral_any n _ (by omega)).mono ?_; rintro e u1 ⟨v1, rfl, o1, b1⟩; obtain ⟨p1, c1, rfl, s1, hc1, hm1, hp1⟩ := own8_src o1; have S1 := Lib.hid s1; have B1 := Lib.hid (bel_trans BW.out b1); have V1 := Lib.hid (VW.out.below b1 VW.out.lt); have O2 := Lib.hid (own8_below O1.out b1); have L1 : W1.heap.size ≤ u1.heap.size := (by have := b1.size; simp at this; omega); rw [hwW] at O2 L1; clear s1 o1 b1 hp1)
    | (at_builtin; refine app8 rfl (.tmp 27) (.tmp 32) rfl (w.heap.size + 1) (.slice (some ⟨w.heap.size + 1, 0, none⟩) 1 1) [3] rfl O2.out p1 _ c1 (numL n) rfl S1.out (by simp; omega) L1 ?_; intro v2 u2 o2 g2; have O3 := Lib.hid o2; have K3 := Lib.hid (bel_grown8 B1.out (own8_mono O2.out (show w.heap.size ≤ w.heap.size + 1 by omega)) g2 (by omega)); have V3 := Lib.hid ((g2.block w.heap.size V1.out.lt (by intro e; have := (World.ownsRow.lt O2.out) _ e.symm; omega)).trans V1.out); clear o2 g2))
  clear hW1 hwW
  go_loopw [3, 4] (fun x i wr => ∃ (k : Nat) (v3 : Value) (ys : List Int), k ≤ n ∧ v3 = x ∧ i = .int .i64 k ∧ Hid (Own8 wr (w.heap.size + 1) v3 ys) ∧ Hid (ys = 3 :: (numL n ++ ((l.take k).map Atom.enc).flatten)) ∧ Hid (ys.length ≤ 20 + lenA (l.take k)) ∧ Hid (Blk wr w.heap.size #[.int .i64 3, .int .i64 0, .string ⟨#[]⟩, .slice (some ⟨b, o, none⟩) n cap] 54) ∧ Hid (Below w.heap.size w wr)) (fun _ i _ => n - (intOf i).toNat)
  case atStart =>
    refine ⟨0, v2, _, by omega, rfl, rfl, O3, Lib.hid (by simp), Lib.hid ?_, V3, K3⟩
    simp; omega
  case round =>
    obtain ⟨k, v3, ys, hk, rfl, rfl, HO, HY, HL, HV, HB⟩ := hrel
    have f3 := HV.out.cell 3
    have hwr := HV.out.lt
    by_cases hlt : k < n
    · have hbr : b < wr.heap.size := Nat.lt_of_lt_of_le hb HB.out.size
      have hkl : k < l.length := by rw [← hn.out]; exact hlt
      obtain ⟨c0, c1, c2, c3⟩ := hl.out.below HB.out hb k hkl
      have hsz := lenA_take hkl
      have hat := hok.out _ (getD_mem' hkl)
      have hen := encs_take hkl
      have hel := enc_len hat
      obtain ⟨at', hx'⟩ : ∃ x, l.getD k (.int 0) = x := ⟨_, rfl⟩
      rw [hx'] at c0 c1 c2 hsz hat hen hel
      have HS := Lib.hid hsz; have HA := Lib.hid hat; have HE := Lib.hid hen; have HEL := Lib.hid hel
      clear hx' hsz hat hen hel
      go_wp2_with (first
        | (go_at_call 49; refine (rencode_atom at' HA.out _).mono ?_; rintro e u1 ⟨v4, rfl, o4, b4⟩; obtain ⟨p4, cp4, rfl, s4, hc4, hm4, hp4⟩ := own8_src o4; have S4 := Lib.hid s4; have O5 := Lib.hid (own8_below HO.out b4); have V5 := Lib.hid (HV.out.below b4 HV.out.lt); have B5 := Lib.hid (bel_trans HB.out b4); have l5 : w.heap.size + 1 ≤ u1.heap.size := (by have := b4.size; omega); clear o4 s4 b4 hp4)
        | (at_builtin; refine app8 rfl (.tmp 41) (.tmp 47) rfl (w.heap.size + 1) v3 ys rfl O5.out p4 _ cp4 at'.enc rfl S4.out (by have := hx.out; have := HL.out; have := HS.out; have := HEL.out; omega) l5 ?_; intro v6 u6 o6 g6; have O6 := Lib.hid o6; have K6 := Lib.hid (bel_grown8 B5.out (own8_mono O5.out (show w.heap.size ≤ w.heap.size + 1 by omega)) g6 (by omega)); have V6 := Lib.hid ((g6.block w.heap.size V5.out.lt (by intro e; have := (World.ownsRow.lt O5.out) _ e.symm; omega)).trans V5.out); clear o6 g6))
      refine ⟨⟨k + 1, v6, _, by omega, rfl, by simp, O6, Lib.hid ?_, Lib.hid ?_, V6, K6⟩, ?_⟩
      · rw [HY.out, HE.out]; simp only [List.append_assoc, List.cons_append]
      · have := HL.out; have := HS.out; have := HEL.out
        rw [List.length_append]; omega
      · simp only [intOf]; omega
    · obtain rfl : k = n := by omega
      go_wp2_with fail
      go_ret
      refine ⟨v3, rfl, ?_, HB.out⟩
      have h := own8_mono HO.out (show w.heap.size ≤ w.heap.size + 1 by omega)
      rw [HY.out, List.take_of_length_le (by have := hn.out; omega)] at h
      unfold encL
      rw [← hn.out]
      exact h
set_option maxRecDepth 100000 in
set_option maxHeartbeats 2000000 in
theorem rEncode_list (l : List Atom) (b o n cap : Nat) (w : World) (hn : Hid (n = l.length)) (hm : n ≤ 1000000) (hok : Hid (∀ a ∈ l, a.ok)) (hb : b < w.heap.size) (hl : Hid (AtomsAt w b o l)) (hx : Hid (60 + lenA l ≤ 2000000000)) :
    Calls Tryd.prog 37 #[.agg #[.int .i64 3, .int .i64 0, .string ⟨#[]⟩, .slice (some ⟨b, o, none⟩) n cap]] w fun e w' => ∃ v', e = .returned (.tuple #[v', .int .i64 0]) ∧ Own8 w' w.heap.size v' (encL l) ∧ Below w.heap.size w w' := by
  have HB0 := Lib.hid (bel_alloc1 w (.cells #[.int .i64 3, .int .i64 0, .string ⟨#[]⟩, .slice (some ⟨b, o, none⟩) n cap] 54))
  have V0 := Lib.hid (Blk.new w #[.int .i64 3, .int .i64 0, .string ⟨#[]⟩, .slice (some ⟨b, o, none⟩) n cap] 54)
  go_enter Tryd.func37, Tryd.ntmps37
  go_wp2_with (first
    | (go_at_call 48; refine (rcheck_list l b o n cap _ hn hm (Nat.lt_of_lt_of_le hb HB0.out.size) (Lib.hid (hl.out.below HB0.out hb))).mono ?_; rintro e u1 ⟨rfl, hb1⟩; have V1 := V0.out.below hb1 V0.out.lt; have f0 := V1.cell 0; have f1 := V1.cell 1; have f2 := V1.cell 2; have f3 := V1.cell 3; have HB1 := Lib.hid (bel_trans HB0.out hb1))
    | (go_at_call 49; refine (rencode_list l b o n cap _ hn hm hok (Nat.lt_of_lt_of_le hb HB1.out.size) (Lib.hid (hl.out.below HB1.out hb)) hx).mono ?_; rintro e u2 ⟨v2, rfl, o2, b2⟩; have O2 := Lib.hid (own8_mono o2 HB1.out.size); have B2 := Lib.hid (bel_trans HB1.out b2); clear o2 b2))
  go_ret2
  exact ⟨v2, rfl, O2.out, B2.out⟩
end Go.Proofs.YtllcgehfmkmcdaaDoor
