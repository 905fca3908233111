/- Package receipts: encode, the text of a letter. A literal list of three integers is encoded. Package receipts: Check. Package receipts: all, over words. Package receipts: Make. -/
import Derived.Test.YtpjobllfiimdkaaGreatDoorOntZB
import Derived.Test.YtpjobllfiimdkaaGreatDoorSigZ
import Derived.Test.YtpjobllfiimdkaaGreatDoorRegP
import Derived.Test.YtpjobllfiimdkaaGreatDoorOntUse
namespace Go.Proofs.YtpjobllfiimdkaaGreatDoor
open Go.RowKit
set_option linter.unusedVariables false
set_option linter.unusedSimpArgs false

set_option maxRecDepth 100000 in
set_option maxHeartbeats 2000000 in
theorem renc_is (zs : List Int) (b n : Nat) (w : World) (hn : Hid (n = zs.length)) (h0 : 0 < n) (hm : n ≤ 1000) (hok : Hid (∀ a ∈ intsA zs, a.ok)) (hb : b < w.heap.size) (hl : Hid (∀ j, j < zs.length → w.cell? ⟨b, j, none⟩ = some (.int .i64 (zs.getD j 0)))) (hx : Hid (60 + lenA (intsA zs) ≤ 2000000000)) :
    Calls Tryz.prog 43 #[.slice (some ⟨b, 0, none⟩) n n] w fun e w' => ∃ v', e = .returned v' ∧ Own8 w' w.heap.size v' (encL (intsA zs)) ∧ Below w.heap.size w w' := by
  have hal := Lib.hid (intsA_len zs)
  go_enter Tryz.func43, Tryz.ntmps43
  go_wp2_with fail
  go_loopw [11] (fun i wr => ∃ (k : Nat) (v2 : Value), k ≤ n ∧ i = .int .i64 k ∧ Hid (Blk wr w.heap.size #[.int .i64 3, .int .i64 0, .string ⟨#[]⟩, v2] 84) ∧ Hid (OwnA wr (w.heap.size + 1) v2 ((intsA zs).take k)) ∧ Hid (Below w.heap.size w wr)) (fun i _ => n - (intOf i).toNat)
  case atStart => exact ⟨0, .slice none 0 0, by omega, rfl, Lib.hid (Blk.new w _ _), Lib.hid ⟨rfl, .inl ⟨rfl, rfl⟩⟩, Lib.hid (bel_alloc1 w _)⟩
  case round =>
    obtain ⟨k, v2, hk, rfl, HV, HO, HB⟩ := hrel
    have hwr : w.heap.size < wr.heap.size := HV.out.lt
    by_cases hlt : k < n
    · have hkl : k < zs.length := by rw [← hn.out]; exact hlt
      have cx : wr.cell? ⟨b, k, none⟩ = some (.int .i64 (zs.getD k 0)) := (HB.out.cell (p := ⟨b, k, none⟩) hb).trans (hl.out k hkl)
      have HTK := Lib.hid (take_snocA (l := intsA zs) (k := k) (by rw [intsA_len]; exact hkl))
      rw [intsA_get zs k hkl] at HTK
      obtain ⟨x, hxx⟩ : ∃ x, zs.getD k 0 = x := ⟨_, rfl⟩
      rw [hxx] at cx HTK
      have hlk : ((intsA zs).take k).length ≤ 1000 := by rw [List.length_take]; omega
      clear hxx hkl
      have cv3 := HV.out.cell 3
      go_wp2_with (refine appA rfl (.tmp 16) (.tmp 19) rfl (w.heap.size + 1) v2 ((intsA zs).take k) rfl (HO.out.below (bel_alloc1 wr _)) wr.heap.size (.int x) rfl (Blk.new wr _ _) (by omega) (by simp; omega) ?_)
      intro v3 u3 o3 g3
      have hne : v2.ownBlock ≠ some w.heap.size := by
        intro e
        have := (World.ownsRow.lt HO.out) _ e
        omega
      have HVA := Lib.hid (HV.out.alloc (.cells (atomCells (.int x)).toArray 84))
      have B3 := Lib.hid (show Blk u3 w.heap.size #[.int .i64 3, .int .i64 0, .string ⟨#[]⟩, v2] 84 from (g3.block _ (by simp; omega) (fun e => hne e.symm)).trans HVA.out)
      have K3 := Lib.hid (show Below w.heap.size w u3 from (HB.out.trans ((Below.mono (bel_alloc1 wr _) HB.out.size).trans ⟨g3.os, g3.tape, g3.output, by have := g3.size; simp at this ⊢; omega, fun i hi => g3.block i (by simp; omega) (by intro e; have := (World.ownsRow.lt HO.out) _ e.symm; omega)⟩)))
      have O3 := Lib.hid o3
      clear o3 g3 HVA
      obtain ⟨g4, cap4, hv4, _, _, _⟩ := OwnA.slice O3.out (by simp)
      obtain ⟨m4, hm4⟩ : ∃ m4, ((intsA zs).take k ++ [Atom.int x]).length = m4 := ⟨_, rfl⟩
      rw [hm4] at hv4
      clear hm4
      subst hv4
      have e3 := B3.out.cell 3
      have f3 := B3.out.frozen 3
      clear cv3 cx
      go_wp2_with fail
      refine ⟨⟨k + 1, .slice (some ⟨g4, 0, none⟩) m4 cap4, by omega, by simp, Lib.hid ?_, Lib.hid ?_, Lib.hid ?_⟩, ?_⟩
      · exact B3.out.set 3 _
      · rw [HTK.out]; exact OwnA.set O3.out (by omega)
      · exact K3.out.setCell (p := ⟨w.heap.size, 3, none⟩) (by simp) _
      · simp only [intOf]; omega
    · obtain rfl : k = n := by omega
      have e0 := HV.out.cell 0
      have e1 := HV.out.cell 1
      have e2 := HV.out.cell 2
      have e3 := HV.out.cell 3
      have hlA := HO.out
      rw [List.take_of_length_le (by rw [intsA_len]; have := hn.out; omega)] at hlA
      obtain ⟨g, cap, rfl, hg1, hg2, hat⟩ := hlA.slice (by rw [intsA_len]; have := hn.out; omega)
      have HAT := Lib.hid hat
      clear hat hlA
      have hll : (intsA zs).length ≤ 1000000 := by rw [intsA_len]; have := hn.out; omega
      go_wp2_with (go_at_call 71; refine (encode_list (intsA zs) g 0 (intsA zs).length cap _ (Lib.hid rfl) hll hok hg2 HAT hx).mono ?_; rintro e u1 ⟨v1, rfl, o1, k1⟩; have O1 := Lib.hid o1; have K1 := Lib.hid k1; clear o1 k1)
      go_ret
      exact ⟨v1, rfl, own8_mono O1.out (by omega), bel_trans HB.out K1.out⟩
/-- a letter's text -/
def ltx (a b c : Int) : List Int := encL (intsA [a, b, c])
theorem len3 (a b c : Int) : lenA (intsA [a, b, c]) = 120 := by simp [lenA, intsA, Atom.sz]
theorem ints3 {a b c : Int} (ha : inR a) (hb : inR b) (hc : inR c) : ∀ x ∈ intsA [a, b, c], x.ok := by
  intro x hx
  simp only [intsA, List.map_cons, List.map_nil, List.mem_cons, List.not_mem_nil, or_false] at hx
  rcases hx with rfl | rfl | rfl
  · exact ha
  · exact hb
  · exact hc
theorem ltx_ok {a b c : Int} (h : ∀ x ∈ intsA [a, b, c], x.ok) : txOk (ltx a b c) := by
  refine ⟨?_, encL_rng h⟩
  have := encL_len h (by simp [intsA])
  rw [len3] at this
  unfold ltx
  omega
set_option maxRecDepth 100000 in
set_option maxHeartbeats 1000000 in
theorem ltext_is (a b c : Int) (w : World) (hok : Hid (∀ x ∈ intsA [a, b, c], x.ok)) :
    Calls Tryz.prog 14 #[.agg #[.int .i64 a, .int .i64 b, .int .i64 c]] w fun e w' => ∃ v', e = .returned v' ∧ Own8 w' w.heap.size v' (ltx a b c) ∧ Below w.heap.size w w' := by
  go_enter Tryz.func14, Tryz.ntmps14
  go_upto_region 1 with fail
  have LB := Lib.hid (Blk.new w #[.int .i64 a, .int .i64 b, .int .i64 c] 44)
  have BB := Lib.hid (bel_alloc1 w (.cells #[.int .i64 a, .int .i64 b, .int .i64 c] 44))
  generalize World.alloc w _ = W at LB BB ⊢
  go_wp2_with (go_at_call 43; refine (renc_is [a, b, c] w.heap.size 3 _ (Lib.hid rfl) (by omega) (by omega) hok LB.out.lt (Lib.hid (fun j h => by
      have h3 : j < 3 := h
      rcases (by omega : j = 0 ∨ j = 1 ∨ j = 2) with rfl | rfl | rfl
      · exact LB.out.cell 0
      · exact LB.out.cell 1
      · exact LB.out.cell 2)) (Lib.hid (by rw [len3]; omega))).mono ?_; rintro e u1 ⟨v1, rfl, o1, k1⟩; have O1 := Lib.hid o1; have K1 := Lib.hid (bel_trans BB.out k1); clear o1 k1)
  go_ret
  exact ⟨v1, rfl, own8_mono O1.out BB.out.size, K1.out⟩
end Go.Proofs.YtpjobllfiimdkaaGreatDoor
namespace Go.Proofs.YtpjobllfiimdkaaGreatDoor
open Go.ChangeShapes Go.WideShapes Go.ChangeAt Go.RowKit Go.WideElems Go.Shelf
set_option linter.unusedVariables false
set_option linter.unusedSimpArgs false

set_option maxRecDepth 100000 in
set_option maxHeartbeats 1000000 in
theorem atoms3 (a b c : Int) (u : World) : AtomsAt (u.alloc (.cells #[.int .i64 1, .int .i64 a, .string ⟨#[]⟩, .slice none 0 0, .int .i64 1, .int .i64 b, .string ⟨#[]⟩, .slice none 0 0, .int .i64 1, .int .i64 c, .string ⟨#[]⟩, .slice none 0 0] 84)) u.heap.size 0 (intsA [a, b, c]) := by
  have h := Blk.new u #[.int .i64 1, .int .i64 a, .string ⟨#[]⟩, .slice none 0 0, .int .i64 1, .int .i64 b, .string ⟨#[]⟩, .slice none 0 0, .int .i64 1, .int .i64 c, .string ⟨#[]⟩, .slice none 0 0] 84
  have c0 := h.cell 0
  have c1 := h.cell 1
  have c2 := h.cell 2
  have c3 := h.cell 3
  have c4 := h.cell 4
  have c5 := h.cell 5
  have c6 := h.cell 6
  have c7 := h.cell 7
  have c8 := h.cell 8
  have c9 := h.cell 9
  have ca := h.cell 10
  have cb := h.cell 11
  intro k hk
  have h3 : k < 3 := hk
  rcases (by omega : k = 0 ∨ k = 1 ∨ k = 2) with rfl | rfl | rfl
  · exact ⟨c0, c1, c2, c3⟩
  · exact ⟨c4, c5, c6, c7⟩
  · exact ⟨c8, c9, ca, cb⟩
set_option maxRecDepth 100000 in
theorem enc3_is (a b c : Int) (u : World) (hok : Hid (∀ x ∈ intsA [a, b, c], x.ok)) :
    Calls Tryz.prog 71 #[.agg #[.int .i64 3, .int .i64 0, .string ⟨#[]⟩, .slice (some ⟨u.heap.size, 0, none⟩) 3 3]] (u.alloc (.cells #[.int .i64 1, .int .i64 a, .string ⟨#[]⟩, .slice none 0 0, .int .i64 1, .int .i64 b, .string ⟨#[]⟩, .slice none 0 0, .int .i64 1, .int .i64 c, .string ⟨#[]⟩, .slice none 0 0] 84)) fun e w' => ∃ p cp, e = .returned (.tuple #[.slice p (ltx a b c).length cp, .int .i64 0]) ∧ SrcV w' p (ltx a b c).length cp (ltx a b c) ∧ Below u.heap.size u w' := by
  refine (encode_list (intsA [a, b, c]) u.heap.size 0 3 3 _ (Lib.hid rfl) (by omega) hok (by simp) (Lib.hid (atoms3 a b c u)) (Lib.hid (by rw [len3]; omega))).mono ?_
  rintro e w' ⟨v', rfl, o, hb⟩
  obtain ⟨p, cp, rfl, hs, _⟩ := own8_src o
  exact ⟨p, cp, rfl, hs, bel_trans (bel_alloc1 u _) hb⟩
end Go.Proofs.YtpjobllfiimdkaaGreatDoor
namespace Go.Proofs.YtpjobllfiimdkaaGreatDoor
open Go.RowKit
set_option linter.unusedVariables false
set_option linter.unusedSimpArgs false

set_option maxRecDepth 100000 in
set_option maxHeartbeats 4000000 in
theorem recChk_is (key a b c x y z e s : Int) (v : Bool) (w : World) (hok : Hid (∀ x ∈ intsA [a, b, c], x.ok)) (hk : Hid (KeysAt w)) (he : IntKind.i64.wrap (y - 1) = e) (hs : IntKind.i64.wrap (z - 1) = s) (hv : Hid (IsVer key (ltx a b c) e s v)) :
    Calls Tryz.prog 8 #[.int .i64 key, .agg #[.int .i64 a, .int .i64 b, .int .i64 c], .agg #[.int .i64 x, .int .i64 y, .int .i64 z]] w fun r w' => r = .returned (.bool v) ∧ Below w.heap.size w w' := by
  have A0 := Lib.hid ((Blk.new w #[.int .i64 a, .int .i64 b, .int .i64 c] 23).alloc (.cells #[.int .i64 x, .int .i64 y, .int .i64 z] 23))
  have X0 := Lib.hid (show Blk ((w.alloc (.cells #[.int .i64 a, .int .i64 b, .int .i64 c] 23)).alloc (.cells #[.int .i64 x, .int .i64 y, .int .i64 z] 23)) (w.heap.size + 1) #[.int .i64 x, .int .i64 y, .int .i64 z] 23 by have := Blk.new (w.alloc (.cells #[.int .i64 a, .int .i64 b, .int .i64 c] 23)) #[.int .i64 x, .int .i64 y, .int .i64 z] 23; simpa using this)
  have B0 := Lib.hid (show Below w.heap.size w ((w.alloc (.cells #[.int .i64 a, .int .i64 b, .int .i64 c] 23)).alloc (.cells #[.int .i64 x, .int .i64 y, .int .i64 z] 23)) from (bel_alloc1 w _).alloc (by simp) _)
  go_enter Tryz.func8, Tryz.ntmps8
  go_upto_region 1 with fail
  generalize World.alloc (World.alloc w _) _ = W0 at A0 X0 B0 ⊢
  have a0 := A0.out.cell 0
  have a1 := A0.out.cell 1
  have a2 := A0.out.cell 2
  have x0 := X0.out.cell 0
  have x1 := X0.out.cell 1
  have x2 := X0.out.cell 2
  go_upto_region 2 with fail
  have BN := Lib.hid (Blk.new W0 #[.int .i64 a, .int .i64 b, .int .i64 c, .int .i64 e, .int .i64 s] 48)
  have BW := Lib.hid (B0.out.trans (Below.mono (bel_alloc1 W0 (.cells #[.int .i64 a, .int .i64 b, .int .i64 c, .int .i64 e, .int .i64 s] 48)) B0.out.size))
  clear a0 a1 a2 x0 x1 x2
  generalize World.alloc W0 _ = W1 at BN BW ⊢
  generalize W0.heap.size = rb at BN ⊢
  refine wp_region_any (by kernel_rfl) ?_
  change wpAny _ _ _ _ _ _ _ (World.drew _)
  generalize hWD : World.drew _ = W
  have B1 := Lib.hid (show Below w.heap.size w W by rw [← hWD]; exact BW.out.drew)
  have BX := Lib.hid (show Blk W rb #[.int .i64 a, .int .i64 b, .int .i64 c, .int .i64 e, .int .i64 s] 48 by rw [← hWD]; exact BN.out)
  clear hWD BN BW
  have hCD : ∀ u, Ext W u → Ext W u := fun u hu => hu
  refine region_U (D := Ext W) (Ext W) [6] (Ext.refl W) ?_
  refine anyU_takeP (i := 0) (j := 6) (v := .int .i64 key) 18 [] rfl rfl (by kernel_rfl) (by kernel_rfl) (by kernel_rfl) (fun _ _ _ h => h) (by kernel_rfl) (Ext.stable _) hCD (yieldsU_val rfl (fun u hu => by go_simp)) ?_
  refine anyU_takeP (i := 1) (j := 6) (v := .pointer (some ⟨rb, 0, none⟩)) 19 [3, 2] rfl rfl (by kernel_rfl) (by kernel_rfl) (by kernel_rfl) (fun _ _ _ h => h) (by kernel_rfl) (Ext.stable _) hCD (yieldsU_val rfl (fun u hu => by go_simp)) ?_
  refine anyU_takeP (i := 2) (j := 6) (v := .agg #[.int .i64 a, .int .i64 b, .int .i64 c]) 20 [3] rfl rfl (by kernel_rfl) (by kernel_rfl) (by kernel_rfl) (fun _ _ _ h => h) (by kernel_rfl) (Ext.stable _) hCD (yieldsU_val rfl (fun u hu => by have q := BX.out.below hu BX.out.lt; have c0 := q.cell 0; have c1 := q.cell 1; have c2 := q.cell 2; have c3 := q.cell 3; have c4 := q.cell 4; go_simp)) ?_
  refine anyU_takeP (i := 4) (j := 6) (v := .pointer (some ⟨rb, 3, none⟩)) 22 [5] rfl rfl (by kernel_rfl) (by kernel_rfl) (by kernel_rfl) (fun _ _ _ h => h) (by kernel_rfl) (Ext.stable _) hCD (yieldsU_val rfl (fun u hu => by go_simp)) ?_
  refine anyU_takeP (i := 5) (j := 6) (v := .agg #[.int .i64 e, .int .i64 s]) 23 [] rfl rfl (by kernel_rfl) (by kernel_rfl) (by kernel_rfl) (fun _ _ _ h => h) (by kernel_rfl) (Ext.stable _) hCD (yieldsU_val rfl (fun u hu => by have q := BX.out.below hu BX.out.lt; have c0 := q.cell 0; have c1 := q.cell 1; have c2 := q.cell 2; have c3 := q.cell 3; have c4 := q.cell 4; go_simp)) ?_
  simp only [Act.put, List.setIfInBounds_toArray, List.set_cons_succ, List.set_cons_zero]
  refine anyU_one 3 2 _ rfl rfl (by kernel_rfl) ?_
  intro u1 hu
  go_wp2_with (go_at_call 14; refine (ltext_is a b c u1 hok).mono ?_; rintro e' u2 ⟨v2, rfl, o2, hb⟩; have O2 := Lib.hid o2; have B2 := Lib.hid (bel_trans hu hb); clear o2 hb)
  change ∃ C' : World → Prop, _ ∧ _ ∧ _ ∧ anyU _ _ _ _ _ _ 2 _ _ _
  obtain ⟨p, cp, hv2, hz2, _, _, _⟩ := own8_src O2.out
  subst v2
  have Z2 := Lib.hid hz2
  clear hz2 O2 hu
  refine anchorF (fun z => Ext W z ∧ SrcV z p (ltx a b c).length cp (ltx a b c)) (fun z hz => hz.1) ((Ext.stable W).and (fun y z h k => h.below k)) ⟨B2.out, Z2.out⟩ ?_
  (try simp only [Act.put])
  refine anyU_tail 6 [7] rfl rfl (by decide) (by kernel_rfl) ?_
  intro u3 hu3
  simp only [Act.put, List.filterMap_cons, List.filterMap_nil, List.getElem?_cons_succ, List.getElem?_cons_zero]
  have Z3 := Lib.hid hu3.2
  have B3 := Lib.hid (bel_trans B1.out hu3.1)
  clear hu3
  go_wp2_with (go_at_call 22; refine (verify_is key e s p _ cp (ltx a b c) u3 (Lib.hid (ltx_ok hok.out)) (Lib.hid (.inl Z3.out)) (Lib.hid (hk.out.below B3.out)) v hv).mono ?_; rintro e' u4 ⟨rfl, hb⟩; have B4 := Lib.hid (bel_trans B3.out hb); clear hb)
  go_ret
  exact ⟨rfl, B4.out⟩
end Go.Proofs.YtpjobllfiimdkaaGreatDoor
namespace Go.Proofs.YtpjobllfiimdkaaGreatDoor
open Go.RowKit
set_option linter.unusedVariables false
set_option linter.unusedSimpArgs false

theorem recWord_any (n : Int) (w : World) : Calls Tryz.prog 16 #[.int .i64 n] w fun e w' => e = .returned (.bool (wordB n)) ∧ w = w' := by
  by_cases h0 : 1 ≤ n
  case pos =>
    by_cases h1 : n ≤ 1073741789
    case pos =>
      rw [show wordB n = true by simp [wordB, h0, h1]]
      go_enter Tryz.func16, Tryz.ntmps16
      go_wp2_with fail
      go_ret
      exact ⟨rfl, rfl⟩
    case neg =>
      rw [show wordB n = false by unfold wordB; simp; omega]
      go_enter Tryz.func16, Tryz.ntmps16
      go_wp2_with fail
      go_ret
      exact ⟨rfl, rfl⟩
  case neg =>
    rw [show wordB n = false by unfold wordB; simp; omega]
    go_enter Tryz.func16, Tryz.ntmps16
    go_wp2_with fail
    go_ret
    exact ⟨rfl, rfl⟩

theorem rall1_is (n : Int) (fb : Nat) (w : World) (hc : w.cell? ⟨fb, 0, none⟩ = some (.func (.func 16) #[] #[])) :
    Calls Tryz.prog 45 #[.int .i64 n, .pointer (some ⟨fb, 0, none⟩)] w fun e w' => e = .returned (.bool (!wordB n)) ∧ w = w' := by
  go_enter Tryz.func45, Tryz.ntmps45
  go_wp2_with (go_at_call 16; refine (recWord_any n _).mono ?_; rintro e w' ⟨rfl, rfl⟩)
  go_ret
  exact ⟨rfl, rfl⟩
set_option maxRecDepth 100000 in
set_option maxHeartbeats 2000000 in
theorem rindex_is (zs : List Int) (b n cap fb : Nat) (v : Bool) (w : World) (hn : Hid (n = zs.length)) (hm : n ≤ 1000) (hl : Hid (∀ j, j < zs.length → w.cell? ⟨b, j, none⟩ = some (.int .i64 (zs.getD j 0)))) (hc : w.cell? ⟨fb, 0, none⟩ = some (.func (.func 16) #[] #[])) (hv : Hid (zs.all wordB = v)) :
    Calls Tryz.prog 75 #[.slice (some ⟨b, 0, none⟩) n cap, .func (.func 45) #[] #[.pointer (some ⟨fb, 0, none⟩)]] w fun e w' => (∃ r : Int, e = .returned (.int .i64 r) ∧ (v = true → r < 0) ∧ (v = false → 0 ≤ r)) ∧ w = w' := by
  go_enter Tryz.func75, Tryz.ntmps75
  go_wp2_with fail
  go_loopw [8] (fun i wr => ∃ k : Nat, k ≤ n ∧ i = .int .i64 k ∧ Hid ((zs.take k).all wordB = true) ∧ w = wr) (fun i _ => n - (intOf i).toNat)
  case atStart => exact ⟨0, by omega, rfl, Lib.hid rfl, rfl⟩
  case round =>
    obtain ⟨k, hk, rfl, HA, rfl⟩ := hrel
    by_cases hlt : k < n
    · have hkl : k < zs.length := by rw [← hn.out]; exact hlt
      have cx := hl.out k hkl
      have HT := Lib.hid (all_take wordB zs k hkl)
      have HF := Lib.hid (show wordB (zs.getD k 0) = false → zs.all wordB = false from fun hp => all_false wordB zs k hkl hp)
      obtain ⟨x, hxx⟩ : ∃ x, zs.getD k 0 = x := ⟨_, rfl⟩
      rw [hxx] at cx HT HF
      clear hxx
      cases hw : wordB x with
      | true =>
        have HW := Lib.hid hw
        have HN := Lib.hid (show (zs.take (k + 1)).all wordB = true by rw [HT.out, HA.out, hw]; rfl)
        clear hw
        go_wp2_with (go_at_call 45; refine (rall1_is x fb _ hc).mono ?_; rintro e w' ⟨rfl, rfl⟩; rw [HW.out])
        go_roundw
        case rel => exact ⟨k + 1, by omega, by simp, HN, by first | rfl | trivial⟩
        case measure => simp [intOf]; omega
      | false =>
        have HW := Lib.hid hw
        have HV : v = false := by rw [← hv.out]; exact HF.out hw
        clear hw
        go_wp2_with (go_at_call 45; refine (rall1_is x fb _ hc).mono ?_; rintro e w' ⟨rfl, rfl⟩; rw [HW.out])
        go_ret
        exact ⟨⟨_, rfl, fun h => (by rw [HV] at h; cases h), fun _ => by omega⟩, rfl⟩
    · obtain rfl : k = n := by omega
      have HV : v = true := by rw [← hv.out, ← HA.out, List.take_of_length_le (by have := hn.out; omega)]
      go_wp2_with fail
      go_ret
      exact ⟨⟨_, rfl, fun _ => by omega, fun h => by rw [HV] at h; cases h⟩, rfl⟩
theorem rcontains_is (zs : List Int) (b n cap fb : Nat) (v : Bool) (w : World) (hn : Hid (n = zs.length)) (hm : n ≤ 1000) (hl : Hid (∀ j, j < zs.length → w.cell? ⟨b, j, none⟩ = some (.int .i64 (zs.getD j 0)))) (hc : w.cell? ⟨fb, 0, none⟩ = some (.func (.func 16) #[] #[])) (hv : Hid (zs.all wordB = v)) :
    Calls Tryz.prog 44 #[.slice (some ⟨b, 0, none⟩) n cap, .func (.func 45) #[] #[.pointer (some ⟨fb, 0, none⟩)]] w fun e w' => e = .returned (.bool (!v)) ∧ w = w' := by
  cases v with
  | true =>
    go_enter Tryz.func44, Tryz.ntmps44
    go_wp2_with (go_at_call 75; refine (rindex_is zs b n cap fb true _ hn hm hl hc hv).mono ?_; rintro e w' ⟨⟨r, rfl, h1, _⟩, rfl⟩; have hr : ¬ r ≥ 0 := (by have := h1 rfl; omega); clear h1)
    go_ret
    exact ⟨by show Ending.returned (.bool (decide (0 ≤ r))) = _; rw [decide_eq_false (by omega)]; rfl, rfl⟩
  | false =>
    go_enter Tryz.func44, Tryz.ntmps44
    go_wp2_with (go_at_call 75; refine (rindex_is zs b n cap fb false _ hn hm hl hc hv).mono ?_; rintro e w' ⟨⟨r, rfl, _, h2⟩, rfl⟩; have hr : r ≥ 0 := h2 rfl; clear h2)
    go_ret
    exact ⟨rfl, rfl⟩
theorem rall_is (zs : List Int) (b n cap : Nat) (v : Bool) (w : World) (hn : Hid (n = zs.length)) (hm : n ≤ 1000) (hb : b < w.heap.size) (hl : Hid (∀ j, j < zs.length → w.cell? ⟨b, j, none⟩ = some (.int .i64 (zs.getD j 0)))) (hv : Hid (zs.all wordB = v)) :
    Calls Tryz.prog 15 #[.slice (some ⟨b, 0, none⟩) n cap, .func (.func 16) #[] #[]] w fun e w' => e = .returned (.bool v) ∧ Below w.heap.size w w' := by
  have B0 := Lib.hid (bel_alloc1 w (.cells #[.func (.func 16) #[] #[]] 55))
  have F0 := Lib.hid (Blk.new w #[.func (.func 16) #[] #[]] 55)
  go_enter Tryz.func15, Tryz.ntmps15
  go_upto_region 1 with fail
  generalize World.alloc w _ = W at B0 F0 ⊢
  go_wp2_with (go_at_call 44; refine (rcontains_is zs b n cap w.heap.size v _ hn hm (Lib.hid fun j h => (B0.out.cell (p := ⟨b, j, none⟩) hb).trans (hl.out j h)) (F0.out.cell 0) hv).mono ?_; rintro e w' ⟨rfl, rfl⟩)
  go_ret
  exact ⟨by simp, B0.out⟩
end Go.Proofs.YtpjobllfiimdkaaGreatDoor
namespace Go.Proofs.YtpjobllfiimdkaaGreatDoor
open Go.RowKit
set_option linter.unusedVariables false
set_option linter.unusedSimpArgs false

set_option maxRecDepth 100000 in
set_option maxHeartbeats 4000000 in
theorem recMake_key (sec a b c l k x y : Int) (zs : List Int) (r0 r1 r2 : Int) (w : World) (hz : Hid (zs.length = 32)) (hok : Hid (∀ x ∈ intsA [a, b, c], x.ok)) (hk : Hid (KeysAt w)) (hsec : sec < 1 ∨ 1073741789 ≤ sec) :
    Calls Tryz.prog 6 #[.int .i64 sec, .agg #[.int .i64 a, .int .i64 b, .int .i64 c], .agg (rtv l k x y zs).toArray, .agg #[.int .i64 r0, .int .i64 r1, .int .i64 r2]] w fun e w' => e = .returned (.tuple #[sealedV 0 0 0 0 0 0, .int .i64 110]) ∧ Below w.heap.size w w' := by
  have A0 := Lib.hid (show Blk (World.alloc (World.alloc (World.alloc (World.alloc w (.cells #[.int .i64 a, .int .i64 b, .int .i64 c] 23)) (.cells (rtv l k x y zs).toArray 29)) (.cells #[.int .i64 r0, .int .i64 r1, .int .i64 r2] 22)) (.cells #[.int .i64 0, .int .i64 0, .int .i64 0, .int .i64 0, .int .i64 0, .int .i64 0] 32)) (w.heap.size) #[.int .i64 a, .int .i64 b, .int .i64 c] 23 by
    have h := Blk.new w #[.int .i64 a, .int .i64 b, .int .i64 c] 23
    (try simp only [World.size_alloc] at h)
    exact (((h.alloc _).alloc _).alloc _))
  have X0 := Lib.hid (show RBlk (World.alloc (World.alloc (World.alloc (World.alloc w (.cells #[.int .i64 a, .int .i64 b, .int .i64 c] 23)) (.cells (rtv l k x y zs).toArray 29)) (.cells #[.int .i64 r0, .int .i64 r1, .int .i64 r2] 22)) (.cells #[.int .i64 0, .int .i64 0, .int .i64 0, .int .i64 0, .int .i64 0, .int .i64 0] 32)) (w.heap.size + 1) l k x y zs by
    have h := RBlk.box (World.alloc w (.cells #[.int .i64 a, .int .i64 b, .int .i64 c] 23)) l k x y hz.out
    (try simp only [World.size_alloc] at h)
    exact ((h.alloc _).alloc _))
  have R0 := Lib.hid (show Blk (World.alloc (World.alloc (World.alloc (World.alloc w (.cells #[.int .i64 a, .int .i64 b, .int .i64 c] 23)) (.cells (rtv l k x y zs).toArray 29)) (.cells #[.int .i64 r0, .int .i64 r1, .int .i64 r2] 22)) (.cells #[.int .i64 0, .int .i64 0, .int .i64 0, .int .i64 0, .int .i64 0, .int .i64 0] 32)) (w.heap.size + 1 + 1) #[.int .i64 r0, .int .i64 r1, .int .i64 r2] 22 by
    have h := Blk.new (World.alloc (World.alloc w (.cells #[.int .i64 a, .int .i64 b, .int .i64 c] 23)) (.cells (rtv l k x y zs).toArray 29)) #[.int .i64 r0, .int .i64 r1, .int .i64 r2] 22
    (try simp only [World.size_alloc] at h)
    exact (h.alloc _))
  have Z0 := Lib.hid (show Blk (World.alloc (World.alloc (World.alloc (World.alloc w (.cells #[.int .i64 a, .int .i64 b, .int .i64 c] 23)) (.cells (rtv l k x y zs).toArray 29)) (.cells #[.int .i64 r0, .int .i64 r1, .int .i64 r2] 22)) (.cells #[.int .i64 0, .int .i64 0, .int .i64 0, .int .i64 0, .int .i64 0, .int .i64 0] 32)) (w.heap.size + 1 + 1 + 1) #[.int .i64 0, .int .i64 0, .int .i64 0, .int .i64 0, .int .i64 0, .int .i64 0] 32 by
    have h := Blk.new (World.alloc (World.alloc (World.alloc w (.cells #[.int .i64 a, .int .i64 b, .int .i64 c] 23)) (.cells (rtv l k x y zs).toArray 29)) (.cells #[.int .i64 r0, .int .i64 r1, .int .i64 r2] 22)) #[.int .i64 0, .int .i64 0, .int .i64 0, .int .i64 0, .int .i64 0, .int .i64 0] 32
    (try simp only [World.size_alloc] at h)
    exact h)
  have B0 := Lib.hid (show Below w.heap.size w (World.alloc (World.alloc (World.alloc (World.alloc w (.cells #[.int .i64 a, .int .i64 b, .int .i64 c] 23)) (.cells (rtv l k x y zs).toArray 29)) (.cells #[.int .i64 r0, .int .i64 r1, .int .i64 r2] 22)) (.cells #[.int .i64 0, .int .i64 0, .int .i64 0, .int .i64 0, .int .i64 0, .int .i64 0] 32)) from (((bel_alloc1 w _).alloc (by simp) _).alloc (by simp; omega) _).alloc (by simp; omega) _)
  go_enter Tryz.func6, Tryz.ntmps6
  go_upto_region 1 with fail
  generalize World.alloc (World.alloc (World.alloc (World.alloc w _) _) _) _ = W0 at A0 X0 R0 Z0 B0 ⊢
  have a0 := A0.out.cell 0
  have a1 := A0.out.cell 1
  have a2 := A0.out.cell 2
  go_upto_region 2 with fail
  clear a0 a1 a2
  have KB := Lib.hid (bel_alloc1 W0 (.cells #[.int .i64 a, .int .i64 b, .int .i64 c, .int .i64 0, .int .i64 0] 48))
  have C1 := Lib.hid (Blk.new W0 #[.int .i64 a, .int .i64 b, .int .i64 c, .int .i64 0, .int .i64 0] 48)
  generalize World.alloc W0 _ = W1 at KB C1 ⊢
  have lt0 := Z0.out.lt
  generalize W0.heap.size = rb at C1 lt0 ⊢
  have B1 := Lib.hid (bel_trans B0.out KB.out)
  have A1 := Lib.hid (A0.out.below KB.out A0.out.lt)
  have X1 := Lib.hid (X0.out.bel KB.out)
  have R1 := Lib.hid (R0.out.below KB.out R0.out.lt)
  have Z1 := Lib.hid (Z0.out.below KB.out Z0.out.lt)
  clear KB
  have c0 := C1.out.cell 0
  have c1 := C1.out.cell 1
  have c2 := C1.out.cell 2
  go_upto_region 3 with (first
    | (go_at_call 14; refine (ltext_is a b c _ hok).mono ?_; rintro e w2 ⟨v2, rfl, o2, hb⟩; have B2 := Lib.hid (bel_trans B1.out hb); have A2 := Lib.hid (A1.out.below hb A1.out.lt); have X2 := Lib.hid (X1.out.bel hb); have R2 := Lib.hid (R1.out.below hb R1.out.lt); have Z2 := Lib.hid (Z1.out.below hb Z1.out.lt); have C2 := Lib.hid (C1.out.below hb C1.out.lt); have O2 := Lib.hid o2; obtain ⟨p2, cp2, hv2, s1, s2, s3, _⟩ := own8_src O2.out; subst v2; have SP := Lib.hid s1; clear o2 hb s1 s2 s3)
    | (go_at_call 13; refine (sign_no sec p2 _ cp2 _ hsec).mono ?_; rintro e w3 ⟨rfl, hb⟩; have B3 := Lib.hid (bel_trans B2.out hb); have A3 := Lib.hid (A2.out.below hb A2.out.lt); have X3 := Lib.hid (X2.out.bel hb); have R3 := Lib.hid (R2.out.below hb R2.out.lt); have Z3 := Lib.hid (Z2.out.below hb Z2.out.lt); have C3 := Lib.hid (C2.out.below hb C2.out.lt); have d3 := C3.out.cell 3; have f3 := C3.out.frozen 3; have d4 := C3.out.cell 4; have f4 := C3.out.frozen 4; clear hb))
  clear c0 c1 c2 d3 d4 f3 f4
  have C4 := Lib.hid (show Blk ((w3.setCell ⟨rb, 3, none⟩ (.int .i64 0)).setCell ⟨rb, 4, none⟩ (.int .i64 0)) rb #[.int .i64 a, .int .i64 b, .int .i64 c, .int .i64 0, .int .i64 0] 48 from (C3.out.set 3 _).set 4 _)
  have A4 := Lib.hid ((A3.out.other 3 (.int .i64 0) (show w.heap.size ≠ rb by omega)).other 4 (.int .i64 0) (show w.heap.size ≠ rb by omega))
  have R4 := Lib.hid ((R3.out.other 3 (.int .i64 0) (show w.heap.size + 1 + 1 ≠ rb by omega)).other 4 (.int .i64 0) (show w.heap.size + 1 + 1 ≠ rb by omega))
  have Z4 := Lib.hid ((Z3.out.other 3 (.int .i64 0) (show w.heap.size + 1 + 1 + 1 ≠ rb by omega)).other 4 (.int .i64 0) (show w.heap.size + 1 + 1 + 1 ≠ rb by omega))
  have X4 := Lib.hid (show RBlk ((w3.setCell ⟨rb, 3, none⟩ (.int .i64 0)).setCell ⟨rb, 4, none⟩ (.int .i64 0)) (w.heap.size + 1) l k x y zs from ⟨(X3.out.1.other 3 (.int .i64 0) (show w.heap.size + 1 ≠ rb by omega)).other 4 (.int .i64 0) (show w.heap.size + 1 ≠ rb by omega), X3.out.2⟩)
  have B4 := Lib.hid (show Below w.heap.size w ((w3.setCell ⟨rb, 3, none⟩ (.int .i64 0)).setCell ⟨rb, 4, none⟩ (.int .i64 0)) from (B3.out.setCell (p := ⟨rb, 3, none⟩) (show w.heap.size ≤ rb by omega) _).setCell (p := ⟨rb, 4, none⟩) (show w.heap.size ≤ rb by omega) _)
  generalize World.setCell (World.setCell w3 _ _) _ _ = W4 at A4 R4 Z4 X4 B4 C4 ⊢
  clear A3 R3 Z3 X3 B3 C3
  have z0 := Z4.out.cell 0
  have y0 := Z4.out.frozen 0
  have z1 := Z4.out.cell 1
  have y1 := Z4.out.frozen 1
  have z2 := Z4.out.cell 2
  have y2 := Z4.out.frozen 2
  have z3 := Z4.out.cell 3
  have y3 := Z4.out.frozen 3
  have z4 := Z4.out.cell 4
  have y4 := Z4.out.frozen 4
  have z5 := Z4.out.cell 5
  have y5 := Z4.out.frozen 5
  go_wp2_with fail
  have hJ : Blk ((((((W4.setCell ⟨w.heap.size + 1 + 1 + 1, 0, none⟩ (.int .i64 0)).setCell ⟨w.heap.size + 1 + 1 + 1, 1, none⟩ (.int .i64 0)).setCell ⟨w.heap.size + 1 + 1 + 1, 2, none⟩ (.int .i64 0)).setCell ⟨w.heap.size + 1 + 1 + 1, 3, none⟩ (.int .i64 0)).setCell ⟨w.heap.size + 1 + 1 + 1, 4, none⟩ (.int .i64 0)).setCell ⟨w.heap.size + 1 + 1 + 1, 5, none⟩ (.int .i64 0)) (w.heap.size + 1 + 1 + 1) #[.int .i64 0, .int .i64 0, .int .i64 0, .int .i64 0, .int .i64 0, .int .i64 0] 32 := six_stored Z4.out _ _ _ _ _ _
  have hB : Below w.heap.size w ((((((W4.setCell ⟨w.heap.size + 1 + 1 + 1, 0, none⟩ (.int .i64 0)).setCell ⟨w.heap.size + 1 + 1 + 1, 1, none⟩ (.int .i64 0)).setCell ⟨w.heap.size + 1 + 1 + 1, 2, none⟩ (.int .i64 0)).setCell ⟨w.heap.size + 1 + 1 + 1, 3, none⟩ (.int .i64 0)).setCell ⟨w.heap.size + 1 + 1 + 1, 4, none⟩ (.int .i64 0)).setCell ⟨w.heap.size + 1 + 1 + 1, 5, none⟩ (.int .i64 0)) := six_below B4.out (by omega) _ _ _ _ _ _
  generalize ((((((W4.setCell ⟨w.heap.size + 1 + 1 + 1, 0, none⟩ (.int .i64 0)).setCell ⟨w.heap.size + 1 + 1 + 1, 1, none⟩ (.int .i64 0)).setCell ⟨w.heap.size + 1 + 1 + 1, 2, none⟩ (.int .i64 0)).setCell ⟨w.heap.size + 1 + 1 + 1, 3, none⟩ (.int .i64 0)).setCell ⟨w.heap.size + 1 + 1 + 1, 4, none⟩ (.int .i64 0)).setCell ⟨w.heap.size + 1 + 1 + 1, 5, none⟩ (.int .i64 0)) = W9 at hJ hB ⊢
  obtain ⟨g0, g1, g2, g3, g4, g5⟩ := res6_ret hJ
  refine bodyPost_ret (v := .tuple #[sealedV 0 0 0 0 0 0, .int .i64 110]) (by simp [results, Tryz.results6, go_sem, g0, g1, g2, g3, g4, g5]) rfl ⟨rfl, hB⟩
set_option maxRecDepth 100000 in
set_option maxHeartbeats 4000000 in
theorem recMake_rec (sec a b c l k x y : Int) (zs : List Int) (r0 r1 r2 : Int) (w : World) (hz : Hid (zs.length = 32)) (hok : Hid (∀ x ∈ intsA [a, b, c], x.ok)) (hk : Hid (KeysAt w)) (s0 : 1 ≤ sec) (s1 : sec < 1073741789) (e0 e1 : Int) (hsig : Hid (IsSig sec (ltx a b c) e0 e1)) (hw : Hid ([a, b, c].all wordB = false)) :
    Calls Tryz.prog 6 #[.int .i64 sec, .agg #[.int .i64 a, .int .i64 b, .int .i64 c], .agg (rtv l k x y zs).toArray, .agg #[.int .i64 r0, .int .i64 r1, .int .i64 r2]] w fun e w' => e = .returned (.tuple #[sealedV 0 0 0 0 0 0, .int .i64 430]) ∧ Below w.heap.size w w' := by
  have A0 := Lib.hid (show Blk (World.alloc (World.alloc (World.alloc (World.alloc w (.cells #[.int .i64 a, .int .i64 b, .int .i64 c] 23)) (.cells (rtv l k x y zs).toArray 29)) (.cells #[.int .i64 r0, .int .i64 r1, .int .i64 r2] 22)) (.cells #[.int .i64 0, .int .i64 0, .int .i64 0, .int .i64 0, .int .i64 0, .int .i64 0] 32)) (w.heap.size) #[.int .i64 a, .int .i64 b, .int .i64 c] 23 by
    have h := Blk.new w #[.int .i64 a, .int .i64 b, .int .i64 c] 23
    (try simp only [World.size_alloc] at h)
    exact (((h.alloc _).alloc _).alloc _))
  have X0 := Lib.hid (show RBlk (World.alloc (World.alloc (World.alloc (World.alloc w (.cells #[.int .i64 a, .int .i64 b, .int .i64 c] 23)) (.cells (rtv l k x y zs).toArray 29)) (.cells #[.int .i64 r0, .int .i64 r1, .int .i64 r2] 22)) (.cells #[.int .i64 0, .int .i64 0, .int .i64 0, .int .i64 0, .int .i64 0, .int .i64 0] 32)) (w.heap.size + 1) l k x y zs by
    have h := RBlk.box (World.alloc w (.cells #[.int .i64 a, .int .i64 b, .int .i64 c] 23)) l k x y hz.out
    (try simp only [World.size_alloc] at h)
    exact ((h.alloc _).alloc _))
  have R0 := Lib.hid (show Blk (World.alloc (World.alloc (World.alloc (World.alloc w (.cells #[.int .i64 a, .int .i64 b, .int .i64 c] 23)) (.cells (rtv l k x y zs).toArray 29)) (.cells #[.int .i64 r0, .int .i64 r1, .int .i64 r2] 22)) (.cells #[.int .i64 0, .int .i64 0, .int .i64 0, .int .i64 0, .int .i64 0, .int .i64 0] 32)) (w.heap.size + 1 + 1) #[.int .i64 r0, .int .i64 r1, .int .i64 r2] 22 by
    have h := Blk.new (World.alloc (World.alloc w (.cells #[.int .i64 a, .int .i64 b, .int .i64 c] 23)) (.cells (rtv l k x y zs).toArray 29)) #[.int .i64 r0, .int .i64 r1, .int .i64 r2] 22
    (try simp only [World.size_alloc] at h)
    exact (h.alloc _))
  have Z0 := Lib.hid (show Blk (World.alloc (World.alloc (World.alloc (World.alloc w (.cells #[.int .i64 a, .int .i64 b, .int .i64 c] 23)) (.cells (rtv l k x y zs).toArray 29)) (.cells #[.int .i64 r0, .int .i64 r1, .int .i64 r2] 22)) (.cells #[.int .i64 0, .int .i64 0, .int .i64 0, .int .i64 0, .int .i64 0, .int .i64 0] 32)) (w.heap.size + 1 + 1 + 1) #[.int .i64 0, .int .i64 0, .int .i64 0, .int .i64 0, .int .i64 0, .int .i64 0] 32 by
    have h := Blk.new (World.alloc (World.alloc (World.alloc w (.cells #[.int .i64 a, .int .i64 b, .int .i64 c] 23)) (.cells (rtv l k x y zs).toArray 29)) (.cells #[.int .i64 r0, .int .i64 r1, .int .i64 r2] 22)) #[.int .i64 0, .int .i64 0, .int .i64 0, .int .i64 0, .int .i64 0, .int .i64 0] 32
    (try simp only [World.size_alloc] at h)
    exact h)
  have B0 := Lib.hid (show Below w.heap.size w (World.alloc (World.alloc (World.alloc (World.alloc w (.cells #[.int .i64 a, .int .i64 b, .int .i64 c] 23)) (.cells (rtv l k x y zs).toArray 29)) (.cells #[.int .i64 r0, .int .i64 r1, .int .i64 r2] 22)) (.cells #[.int .i64 0, .int .i64 0, .int .i64 0, .int .i64 0, .int .i64 0, .int .i64 0] 32)) from (((bel_alloc1 w _).alloc (by simp) _).alloc (by simp; omega) _).alloc (by simp; omega) _)
  go_enter Tryz.func6, Tryz.ntmps6
  go_upto_region 1 with fail
  generalize World.alloc (World.alloc (World.alloc (World.alloc w _) _) _) _ = W0 at A0 X0 R0 Z0 B0 ⊢
  have a0 := A0.out.cell 0
  have a1 := A0.out.cell 1
  have a2 := A0.out.cell 2
  go_upto_region 2 with fail
  clear a0 a1 a2
  have KB := Lib.hid (bel_alloc1 W0 (.cells #[.int .i64 a, .int .i64 b, .int .i64 c, .int .i64 0, .int .i64 0] 48))
  have C1 := Lib.hid (Blk.new W0 #[.int .i64 a, .int .i64 b, .int .i64 c, .int .i64 0, .int .i64 0] 48)
  generalize World.alloc W0 _ = W1 at KB C1 ⊢
  have lt0 := Z0.out.lt
  generalize W0.heap.size = rb at C1 lt0 ⊢
  have B1 := Lib.hid (bel_trans B0.out KB.out)
  have A1 := Lib.hid (A0.out.below KB.out A0.out.lt)
  have X1 := Lib.hid (X0.out.bel KB.out)
  have R1 := Lib.hid (R0.out.below KB.out R0.out.lt)
  have Z1 := Lib.hid (Z0.out.below KB.out Z0.out.lt)
  clear KB
  have c0 := C1.out.cell 0
  have c1 := C1.out.cell 1
  have c2 := C1.out.cell 2
  go_upto_region 3 with (first
    | (go_at_call 14; refine (ltext_is a b c _ hok).mono ?_; rintro e w2 ⟨v2, rfl, o2, hb⟩; have B2 := Lib.hid (bel_trans B1.out hb); have A2 := Lib.hid (A1.out.below hb A1.out.lt); have X2 := Lib.hid (X1.out.bel hb); have R2 := Lib.hid (R1.out.below hb R1.out.lt); have Z2 := Lib.hid (Z1.out.below hb Z1.out.lt); have C2 := Lib.hid (C1.out.below hb C1.out.lt); have O2 := Lib.hid o2; obtain ⟨p2, cp2, hv2, s1, s2, s3, _⟩ := own8_src O2.out; subst v2; have SP := Lib.hid s1; clear o2 hb s1 s2 s3)
    | (go_at_call 13; refine (sign_yes sec p2 _ cp2 (ltx a b c) _ s0 s1 (Lib.hid (ltx_ok hok.out)) (Lib.hid (.inl SP.out)) (Lib.hid (hk.out.below B2.out)) e0 e1 hsig).mono ?_; rintro e w3 ⟨rfl, hb⟩; have B3 := Lib.hid (bel_trans B2.out hb); have A3 := Lib.hid (A2.out.below hb A2.out.lt); have X3 := Lib.hid (X2.out.bel hb); have R3 := Lib.hid (R2.out.below hb R2.out.lt); have Z3 := Lib.hid (Z2.out.below hb Z2.out.lt); have C3 := Lib.hid (C2.out.below hb C2.out.lt); have d3 := C3.out.cell 3; have f3 := C3.out.frozen 3; have d4 := C3.out.cell 4; have f4 := C3.out.frozen 4; clear hb))
  clear c0 c1 c2 d3 d4 f3 f4
  have C4 := Lib.hid (show Blk ((w3.setCell ⟨rb, 3, none⟩ (.int .i64 e0)).setCell ⟨rb, 4, none⟩ (.int .i64 e1)) rb #[.int .i64 a, .int .i64 b, .int .i64 c, .int .i64 e0, .int .i64 e1] 48 from (C3.out.set 3 _).set 4 _)
  have A4 := Lib.hid ((A3.out.other 3 (.int .i64 e0) (show w.heap.size ≠ rb by omega)).other 4 (.int .i64 e1) (show w.heap.size ≠ rb by omega))
  have R4 := Lib.hid ((R3.out.other 3 (.int .i64 e0) (show w.heap.size + 1 + 1 ≠ rb by omega)).other 4 (.int .i64 e1) (show w.heap.size + 1 + 1 ≠ rb by omega))
  have Z4 := Lib.hid ((Z3.out.other 3 (.int .i64 e0) (show w.heap.size + 1 + 1 + 1 ≠ rb by omega)).other 4 (.int .i64 e1) (show w.heap.size + 1 + 1 + 1 ≠ rb by omega))
  have X4 := Lib.hid (show RBlk ((w3.setCell ⟨rb, 3, none⟩ (.int .i64 e0)).setCell ⟨rb, 4, none⟩ (.int .i64 e1)) (w.heap.size + 1) l k x y zs from ⟨(X3.out.1.other 3 (.int .i64 e0) (show w.heap.size + 1 ≠ rb by omega)).other 4 (.int .i64 e1) (show w.heap.size + 1 ≠ rb by omega), X3.out.2⟩)
  have B4 := Lib.hid (show Below w.heap.size w ((w3.setCell ⟨rb, 3, none⟩ (.int .i64 e0)).setCell ⟨rb, 4, none⟩ (.int .i64 e1)) from (B3.out.setCell (p := ⟨rb, 3, none⟩) (show w.heap.size ≤ rb by omega) _).setCell (p := ⟨rb, 4, none⟩) (show w.heap.size ≤ rb by omega) _)
  generalize World.setCell (World.setCell w3 _ _) _ _ = W4 at A4 R4 Z4 X4 B4 C4 ⊢
  clear A3 R3 Z3 X3 B3 C3
  go_wp2_with (first
    | (go_at_call 15; refine (rall_is [a, b, c] w.heap.size 3 3 false _ (Lib.hid rfl) (by omega) A4.out.lt (Lib.hid (fun j h => by
        have h3 : j < 3 := h
        rcases (by omega : j = 0 ∨ j = 1 ∨ j = 2) with rfl | rfl | rfl
        · exact A4.out.cell 0
        · exact A4.out.cell 1
        · exact A4.out.cell 2)) hw).mono ?_; rintro e w5 ⟨rfl, hb⟩; have B5 := Lib.hid (bel_trans B4.out hb); have A5 := Lib.hid (A4.out.below hb A4.out.lt); have X5 := Lib.hid (X4.out.bel hb); have R5 := Lib.hid (R4.out.below hb R4.out.lt); have Z5 := Lib.hid (Z4.out.below hb Z4.out.lt); have C5 := Lib.hid (C4.out.below hb C4.out.lt); have z0 := Z5.out.cell 0; have y0 := Z5.out.frozen 0; have z1 := Z5.out.cell 1; have y1 := Z5.out.frozen 1; have z2 := Z5.out.cell 2; have y2 := Z5.out.frozen 2; have z3 := Z5.out.cell 3; have y3 := Z5.out.frozen 3; have z4 := Z5.out.cell 4; have y4 := Z5.out.frozen 4; have z5 := Z5.out.cell 5; have y5 := Z5.out.frozen 5; have d3 := C5.out.cell 3; have d4 := C5.out.cell 4; have r0c := R5.out.cell 0; have r1c := R5.out.cell 1; have r2c := R5.out.cell 2; clear hb))
  have hJ : Blk ((((((w5.setCell ⟨w.heap.size + 1 + 1 + 1, 0, none⟩ (.int .i64 0)).setCell ⟨w.heap.size + 1 + 1 + 1, 1, none⟩ (.int .i64 0)).setCell ⟨w.heap.size + 1 + 1 + 1, 2, none⟩ (.int .i64 0)).setCell ⟨w.heap.size + 1 + 1 + 1, 3, none⟩ (.int .i64 0)).setCell ⟨w.heap.size + 1 + 1 + 1, 4, none⟩ (.int .i64 0)).setCell ⟨w.heap.size + 1 + 1 + 1, 5, none⟩ (.int .i64 0)) (w.heap.size + 1 + 1 + 1) #[.int .i64 0, .int .i64 0, .int .i64 0, .int .i64 0, .int .i64 0, .int .i64 0] 32 := six_stored Z5.out _ _ _ _ _ _
  have hB : Below w.heap.size w ((((((w5.setCell ⟨w.heap.size + 1 + 1 + 1, 0, none⟩ (.int .i64 0)).setCell ⟨w.heap.size + 1 + 1 + 1, 1, none⟩ (.int .i64 0)).setCell ⟨w.heap.size + 1 + 1 + 1, 2, none⟩ (.int .i64 0)).setCell ⟨w.heap.size + 1 + 1 + 1, 3, none⟩ (.int .i64 0)).setCell ⟨w.heap.size + 1 + 1 + 1, 4, none⟩ (.int .i64 0)).setCell ⟨w.heap.size + 1 + 1 + 1, 5, none⟩ (.int .i64 0)) := six_below B5.out (by omega) _ _ _ _ _ _
  generalize ((((((w5.setCell ⟨w.heap.size + 1 + 1 + 1, 0, none⟩ (.int .i64 0)).setCell ⟨w.heap.size + 1 + 1 + 1, 1, none⟩ (.int .i64 0)).setCell ⟨w.heap.size + 1 + 1 + 1, 2, none⟩ (.int .i64 0)).setCell ⟨w.heap.size + 1 + 1 + 1, 3, none⟩ (.int .i64 0)).setCell ⟨w.heap.size + 1 + 1 + 1, 4, none⟩ (.int .i64 0)).setCell ⟨w.heap.size + 1 + 1 + 1, 5, none⟩ (.int .i64 0)) = W9 at hJ hB ⊢
  obtain ⟨g0, g1, g2, g3, g4, g5⟩ := res6_ret hJ
  refine bodyPost_ret (v := .tuple #[sealedV 0 0 0 0 0 0, .int .i64 430]) (by simp [results, Tryz.results6, go_sem, g0, g1, g2, g3, g4, g5]) rfl ⟨rfl, hB⟩
set_option maxRecDepth 100000 in
set_option maxHeartbeats 4000000 in
theorem recMake_use (sec a b c l k x y : Int) (zs : List Int) (r0 r1 r2 : Int) (w : World) (hz : Hid (zs.length = 32)) (hok : Hid (∀ x ∈ intsA [a, b, c], x.ok)) (hk : Hid (KeysAt w)) (s0 : 1 ≤ sec) (s1 : sec < 1073741789) (e0 e1 : Int) (hsig : Hid (IsSig sec (ltx a b c) e0 e1)) (hw : Hid ([a, b, c].all wordB = true)) (hr0 : 0 ≤ e0 ∧ e0 < 1073741789) (hr1 : 0 ≤ e1 ∧ e1 < 1073741789) (s0v s1v s2v s3v s4v s5v ue : Int) (HU : Hid (∀ g : World, Below w.heap.size w g → Calls Tryz.prog 17 #[.agg (rtv l k x y zs).toArray, .agg #[.int .i64 (e0 + 1), .int .i64 (e1 + 1)], .agg #[.int .i64 r0, .int .i64 r1, .int .i64 r2]] g fun e w' => e = .returned (.tuple #[sealedV s0v s1v s2v s3v s4v s5v, .int .i64 ue]) ∧ Below g.heap.size g w')) :
    Calls Tryz.prog 6 #[.int .i64 sec, .agg #[.int .i64 a, .int .i64 b, .int .i64 c], .agg (rtv l k x y zs).toArray, .agg #[.int .i64 r0, .int .i64 r1, .int .i64 r2]] w fun e w' => e = .returned (.tuple #[sealedV s0v s1v s2v s3v s4v s5v, .int .i64 ue]) ∧ Below w.heap.size w w' := by
  have A0 := Lib.hid (show Blk (World.alloc (World.alloc (World.alloc (World.alloc w (.cells #[.int .i64 a, .int .i64 b, .int .i64 c] 23)) (.cells (rtv l k x y zs).toArray 29)) (.cells #[.int .i64 r0, .int .i64 r1, .int .i64 r2] 22)) (.cells #[.int .i64 0, .int .i64 0, .int .i64 0, .int .i64 0, .int .i64 0, .int .i64 0] 32)) (w.heap.size) #[.int .i64 a, .int .i64 b, .int .i64 c] 23 by
    have h := Blk.new w #[.int .i64 a, .int .i64 b, .int .i64 c] 23
    (try simp only [World.size_alloc] at h)
    exact (((h.alloc _).alloc _).alloc _))
  have X0 := Lib.hid (show RBlk (World.alloc (World.alloc (World.alloc (World.alloc w (.cells #[.int .i64 a, .int .i64 b, .int .i64 c] 23)) (.cells (rtv l k x y zs).toArray 29)) (.cells #[.int .i64 r0, .int .i64 r1, .int .i64 r2] 22)) (.cells #[.int .i64 0, .int .i64 0, .int .i64 0, .int .i64 0, .int .i64 0, .int .i64 0] 32)) (w.heap.size + 1) l k x y zs by
    have h := RBlk.box (World.alloc w (.cells #[.int .i64 a, .int .i64 b, .int .i64 c] 23)) l k x y hz.out
    (try simp only [World.size_alloc] at h)
    exact ((h.alloc _).alloc _))
  have R0 := Lib.hid (show Blk (World.alloc (World.alloc (World.alloc (World.alloc w (.cells #[.int .i64 a, .int .i64 b, .int .i64 c] 23)) (.cells (rtv l k x y zs).toArray 29)) (.cells #[.int .i64 r0, .int .i64 r1, .int .i64 r2] 22)) (.cells #[.int .i64 0, .int .i64 0, .int .i64 0, .int .i64 0, .int .i64 0, .int .i64 0] 32)) (w.heap.size + 1 + 1) #[.int .i64 r0, .int .i64 r1, .int .i64 r2] 22 by
    have h := Blk.new (World.alloc (World.alloc w (.cells #[.int .i64 a, .int .i64 b, .int .i64 c] 23)) (.cells (rtv l k x y zs).toArray 29)) #[.int .i64 r0, .int .i64 r1, .int .i64 r2] 22
    (try simp only [World.size_alloc] at h)
    exact (h.alloc _))
  have Z0 := Lib.hid (show Blk (World.alloc (World.alloc (World.alloc (World.alloc w (.cells #[.int .i64 a, .int .i64 b, .int .i64 c] 23)) (.cells (rtv l k x y zs).toArray 29)) (.cells #[.int .i64 r0, .int .i64 r1, .int .i64 r2] 22)) (.cells #[.int .i64 0, .int .i64 0, .int .i64 0, .int .i64 0, .int .i64 0, .int .i64 0] 32)) (w.heap.size + 1 + 1 + 1) #[.int .i64 0, .int .i64 0, .int .i64 0, .int .i64 0, .int .i64 0, .int .i64 0] 32 by
    have h := Blk.new (World.alloc (World.alloc (World.alloc w (.cells #[.int .i64 a, .int .i64 b, .int .i64 c] 23)) (.cells (rtv l k x y zs).toArray 29)) (.cells #[.int .i64 r0, .int .i64 r1, .int .i64 r2] 22)) #[.int .i64 0, .int .i64 0, .int .i64 0, .int .i64 0, .int .i64 0, .int .i64 0] 32
    (try simp only [World.size_alloc] at h)
    exact h)
  have B0 := Lib.hid (show Below w.heap.size w (World.alloc (World.alloc (World.alloc (World.alloc w (.cells #[.int .i64 a, .int .i64 b, .int .i64 c] 23)) (.cells (rtv l k x y zs).toArray 29)) (.cells #[.int .i64 r0, .int .i64 r1, .int .i64 r2] 22)) (.cells #[.int .i64 0, .int .i64 0, .int .i64 0, .int .i64 0, .int .i64 0, .int .i64 0] 32)) from (((bel_alloc1 w _).alloc (by simp) _).alloc (by simp; omega) _).alloc (by simp; omega) _)
  go_enter Tryz.func6, Tryz.ntmps6
  go_upto_region 1 with fail
  generalize World.alloc (World.alloc (World.alloc (World.alloc w _) _) _) _ = W0 at A0 X0 R0 Z0 B0 ⊢
  have a0 := A0.out.cell 0
  have a1 := A0.out.cell 1
  have a2 := A0.out.cell 2
  go_upto_region 2 with fail
  clear a0 a1 a2
  have KB := Lib.hid (bel_alloc1 W0 (.cells #[.int .i64 a, .int .i64 b, .int .i64 c, .int .i64 0, .int .i64 0] 48))
  have C1 := Lib.hid (Blk.new W0 #[.int .i64 a, .int .i64 b, .int .i64 c, .int .i64 0, .int .i64 0] 48)
  generalize World.alloc W0 _ = W1 at KB C1 ⊢
  have lt0 := Z0.out.lt
  generalize W0.heap.size = rb at C1 lt0 ⊢
  have B1 := Lib.hid (bel_trans B0.out KB.out)
  have A1 := Lib.hid (A0.out.below KB.out A0.out.lt)
  have X1 := Lib.hid (X0.out.bel KB.out)
  have R1 := Lib.hid (R0.out.below KB.out R0.out.lt)
  have Z1 := Lib.hid (Z0.out.below KB.out Z0.out.lt)
  clear KB
  have c0 := C1.out.cell 0
  have c1 := C1.out.cell 1
  have c2 := C1.out.cell 2
  go_upto_region 3 with (first
    | (go_at_call 14; refine (ltext_is a b c _ hok).mono ?_; rintro e w2 ⟨v2, rfl, o2, hb⟩; have B2 := Lib.hid (bel_trans B1.out hb); have A2 := Lib.hid (A1.out.below hb A1.out.lt); have X2 := Lib.hid (X1.out.bel hb); have R2 := Lib.hid (R1.out.below hb R1.out.lt); have Z2 := Lib.hid (Z1.out.below hb Z1.out.lt); have C2 := Lib.hid (C1.out.below hb C1.out.lt); have O2 := Lib.hid o2; obtain ⟨p2, cp2, hv2, s1, s2, s3, _⟩ := own8_src O2.out; subst v2; have SP := Lib.hid s1; clear o2 hb s1 s2 s3)
    | (go_at_call 13; refine (sign_yes sec p2 _ cp2 (ltx a b c) _ s0 s1 (Lib.hid (ltx_ok hok.out)) (Lib.hid (.inl SP.out)) (Lib.hid (hk.out.below B2.out)) e0 e1 hsig).mono ?_; rintro e w3 ⟨rfl, hb⟩; have B3 := Lib.hid (bel_trans B2.out hb); have A3 := Lib.hid (A2.out.below hb A2.out.lt); have X3 := Lib.hid (X2.out.bel hb); have R3 := Lib.hid (R2.out.below hb R2.out.lt); have Z3 := Lib.hid (Z2.out.below hb Z2.out.lt); have C3 := Lib.hid (C2.out.below hb C2.out.lt); have d3 := C3.out.cell 3; have f3 := C3.out.frozen 3; have d4 := C3.out.cell 4; have f4 := C3.out.frozen 4; clear hb))
  clear c0 c1 c2 d3 d4 f3 f4
  have C4 := Lib.hid (show Blk ((w3.setCell ⟨rb, 3, none⟩ (.int .i64 e0)).setCell ⟨rb, 4, none⟩ (.int .i64 e1)) rb #[.int .i64 a, .int .i64 b, .int .i64 c, .int .i64 e0, .int .i64 e1] 48 from (C3.out.set 3 _).set 4 _)
  have A4 := Lib.hid ((A3.out.other 3 (.int .i64 e0) (show w.heap.size ≠ rb by omega)).other 4 (.int .i64 e1) (show w.heap.size ≠ rb by omega))
  have R4 := Lib.hid ((R3.out.other 3 (.int .i64 e0) (show w.heap.size + 1 + 1 ≠ rb by omega)).other 4 (.int .i64 e1) (show w.heap.size + 1 + 1 ≠ rb by omega))
  have Z4 := Lib.hid ((Z3.out.other 3 (.int .i64 e0) (show w.heap.size + 1 + 1 + 1 ≠ rb by omega)).other 4 (.int .i64 e1) (show w.heap.size + 1 + 1 + 1 ≠ rb by omega))
  have X4 := Lib.hid (show RBlk ((w3.setCell ⟨rb, 3, none⟩ (.int .i64 e0)).setCell ⟨rb, 4, none⟩ (.int .i64 e1)) (w.heap.size + 1) l k x y zs from ⟨(X3.out.1.other 3 (.int .i64 e0) (show w.heap.size + 1 ≠ rb by omega)).other 4 (.int .i64 e1) (show w.heap.size + 1 ≠ rb by omega), X3.out.2⟩)
  have B4 := Lib.hid (show Below w.heap.size w ((w3.setCell ⟨rb, 3, none⟩ (.int .i64 e0)).setCell ⟨rb, 4, none⟩ (.int .i64 e1)) from (B3.out.setCell (p := ⟨rb, 3, none⟩) (show w.heap.size ≤ rb by omega) _).setCell (p := ⟨rb, 4, none⟩) (show w.heap.size ≤ rb by omega) _)
  generalize World.setCell (World.setCell w3 _ _) _ _ = W4 at A4 R4 Z4 X4 B4 C4 ⊢
  clear A3 R3 Z3 X3 B3 C3
  go_wp2_with (first
    | (go_at_call 15; refine (rall_is [a, b, c] w.heap.size 3 3 true _ (Lib.hid rfl) (by omega) A4.out.lt (Lib.hid (fun j h => by
        have h3 : j < 3 := h
        rcases (by omega : j = 0 ∨ j = 1 ∨ j = 2) with rfl | rfl | rfl
        · exact A4.out.cell 0
        · exact A4.out.cell 1
        · exact A4.out.cell 2)) hw).mono ?_; rintro e w5 ⟨rfl, hb⟩; have B5 := Lib.hid (bel_trans B4.out hb); have A5 := Lib.hid (A4.out.below hb A4.out.lt); have X5 := Lib.hid (X4.out.bel hb); have R5 := Lib.hid (R4.out.below hb R4.out.lt); have Z5 := Lib.hid (Z4.out.below hb Z4.out.lt); have C5 := Lib.hid (C4.out.below hb C4.out.lt); have z0 := Z5.out.cell 0; have y0 := Z5.out.frozen 0; have z1 := Z5.out.cell 1; have y1 := Z5.out.frozen 1; have z2 := Z5.out.cell 2; have y2 := Z5.out.frozen 2; have z3 := Z5.out.cell 3; have y3 := Z5.out.frozen 3; have z4 := Z5.out.cell 4; have y4 := Z5.out.frozen 4; have z5 := Z5.out.cell 5; have y5 := Z5.out.frozen 5; have d3 := C5.out.cell 3; have d4 := C5.out.cell 4; have r0c := R5.out.cell 0; have r1c := R5.out.cell 1; have r2c := R5.out.cell 2; clear hb)
    | (refine list_loadR (by rfl) (.tmp 6) rfl (w.heap.size + 1) rfl l k x y zs X5.out ?_)
    | (go_at_call 17; refine (HU.out _ B5.out).mono ?_; rintro e w6 ⟨rfl, hb⟩; have B6 := Lib.hid (bel_trans B5.out hb); have Z6 := Lib.hid (Z5.out.below hb Z5.out.lt); clear z0 z1 z2 z3 z4 z5 y0 y1 y2 y3 y4 y5; have z0 := Z6.out.cell 0; have y0 := Z6.out.frozen 0; have z1 := Z6.out.cell 1; have y1 := Z6.out.frozen 1; have z2 := Z6.out.cell 2; have y2 := Z6.out.frozen 2; have z3 := Z6.out.cell 3; have y3 := Z6.out.frozen 3; have z4 := Z6.out.cell 4; have y4 := Z6.out.frozen 4; have z5 := Z6.out.cell 5; have y5 := Z6.out.frozen 5; clear hb))
  have hJ : Blk ((((((w6.setCell ⟨w.heap.size + 1 + 1 + 1, 0, none⟩ (.int .i64 s0v)).setCell ⟨w.heap.size + 1 + 1 + 1, 1, none⟩ (.int .i64 s1v)).setCell ⟨w.heap.size + 1 + 1 + 1, 2, none⟩ (.int .i64 s2v)).setCell ⟨w.heap.size + 1 + 1 + 1, 3, none⟩ (.int .i64 s3v)).setCell ⟨w.heap.size + 1 + 1 + 1, 4, none⟩ (.int .i64 s4v)).setCell ⟨w.heap.size + 1 + 1 + 1, 5, none⟩ (.int .i64 s5v)) (w.heap.size + 1 + 1 + 1) #[.int .i64 s0v, .int .i64 s1v, .int .i64 s2v, .int .i64 s3v, .int .i64 s4v, .int .i64 s5v] 32 := six_stored Z6.out _ _ _ _ _ _
  have hB : Below w.heap.size w ((((((w6.setCell ⟨w.heap.size + 1 + 1 + 1, 0, none⟩ (.int .i64 s0v)).setCell ⟨w.heap.size + 1 + 1 + 1, 1, none⟩ (.int .i64 s1v)).setCell ⟨w.heap.size + 1 + 1 + 1, 2, none⟩ (.int .i64 s2v)).setCell ⟨w.heap.size + 1 + 1 + 1, 3, none⟩ (.int .i64 s3v)).setCell ⟨w.heap.size + 1 + 1 + 1, 4, none⟩ (.int .i64 s4v)).setCell ⟨w.heap.size + 1 + 1 + 1, 5, none⟩ (.int .i64 s5v)) := six_below B6.out (by omega) _ _ _ _ _ _
  generalize ((((((w6.setCell ⟨w.heap.size + 1 + 1 + 1, 0, none⟩ (.int .i64 s0v)).setCell ⟨w.heap.size + 1 + 1 + 1, 1, none⟩ (.int .i64 s1v)).setCell ⟨w.heap.size + 1 + 1 + 1, 2, none⟩ (.int .i64 s2v)).setCell ⟨w.heap.size + 1 + 1 + 1, 3, none⟩ (.int .i64 s3v)).setCell ⟨w.heap.size + 1 + 1 + 1, 4, none⟩ (.int .i64 s4v)).setCell ⟨w.heap.size + 1 + 1 + 1, 5, none⟩ (.int .i64 s5v)) = W9 at hJ hB ⊢
  obtain ⟨g0, g1, g2, g3, g4, g5⟩ := res6_ret hJ
  refine bodyPost_ret (v := .tuple #[sealedV s0v s1v s2v s3v s4v s5v, .int .i64 ue]) (by simp [results, Tryz.results6, go_sem, g0, g1, g2, g3, g4, g5]) rfl ⟨rfl, hB⟩
end Go.Proofs.YtpjobllfiimdkaaGreatDoor
