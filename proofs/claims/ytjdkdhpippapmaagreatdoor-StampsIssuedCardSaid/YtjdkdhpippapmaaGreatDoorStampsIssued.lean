/- Whatever the numbers are that blind it, a stamp that the bank issues is right for its key; its signature is one of the text of the serial and the value. No condition. -/
import Derived.Test.YtjdkdhpippapmaaGreatDoorStpZE
import Derived.Test.YtjdkdhpippapmaaGreatDoorStpZD
namespace Go.Proofs.YtjdkdhpippapmaaGreatDoor
open Go.ChangeShapes Go.WideShapes Go.ChangeAt Go.RowKit Go.WideElems Go.Shelf
set_option linter.unusedVariables false
set_option linter.unusedSimpArgs false

set_option maxRecDepth 100000 in
set_option maxHeartbeats 8000000 in
theorem stampsIssued_yes (a b : Int) (zs : List Int) (n u v : Int) (xa xb nn key r pt h c y s S z : Int) (w : World) (hl : Hid (zs.length = 32)) (hr : Hid (∀ z ∈ zs, 0 ≤ z ∧ z ≤ 255)) (hk : Hid (KeysAt w))
    (HA0 : Hid (0 ≤ a ∧ a ≤ 4294967295)) (HB0 : Hid (0 ≤ b ∧ b ≤ 4294967295)) (HSA : Hid (1 + a % 1073741788 = xa)) (HSB : Hid (1 + b % 1073741788 = xb)) (HN0 : Hid ((Lit.int .i64 n).wf = true)) (HNN : Hid (valZ n = nn)) (HVN : Hid (valB nn = true)) (HXA : Hid (secB xa = true)) (HXB : Hid (secB xb = true)) (HKEY : Hid (IsPw 4 xa key)) (HEX : Hid (ExR xa xb u v (encL [.text zs, .int nn]) key r pt h c y s S z)) (HOK : Hid (∀ q ∈ [Atom.text zs, .int nn], q.ok)) (HTX : Hid (txOk (encL [.text zs, .int nn]))) (HVT : Hid (IsChk key zs nn h S true)) (HVR : Hid (IsVer key (encL [.text zs, .int nn]) h S true)) :
    Calls Tryz.prog 5 #[.int .u32 a, .int .u32 b, .agg (bv zs).toArray, .int .i64 n, .int .i64 u, .int .i64 v] w fun q w' => q = .returned (.bool true) ∧ Below w.heap.size w w' := by
  have D0 := Lib.hid (Dg.box w hl.out)
  have B0 := Lib.hid (bel_alloc1 w (.cells (bv zs).toArray 23))
  go_enter Tryz.func5, Tryz.ntmps5
  go_upto_region 4 with (first
    | (go_at_call 8; refine (sane37_any _ (Lib.hid (hk.out.below B0.out))).mono ?_; rintro e w1 ⟨rfl, hb⟩; have B1 := Lib.hid (bel_trans B0.out hb); have D1 := Lib.hid (D0.out.bel hb); clear hb)
    | (go_at_call 20; refine (secret_is a xa _ HA0 HSA).mono ?_; rintro e w' ⟨rfl, rfl⟩)
    | (go_at_call 19; refine (pub_is xa key _ HXA HKEY).mono ?_; rintro e w2 ⟨rfl, hb⟩; have B2 := Lib.hid (bel_trans B1.out hb); have D2 := Lib.hid (D1.out.bel hb); clear hb))
  refine wp_region_any (by kernel_rfl) ?_
  change wpAny _ _ _ _ _ _ _ (World.drew _)
  generalize hWD : World.drew _ = W
  have B3 := Lib.hid (show Below w.heap.size w W by rw [← hWD]; exact B2.out.drew)
  have D3 := Lib.hid (show Dg W w.heap.size zs by rw [← hWD]; exact D2.out)
  clear hWD
  have hCD : ∀ u, Ext W u → Ext W u := fun u hu => hu
  refine region_U (D := Ext W) (Ext W) [21] (Ext.refl W) ?_
  refine anyU_takeD (i := 0) (v := .int .u32 a) 31 rfl rfl (by kernel_rfl) (by kernel_rfl) (by kernel_rfl) (fun _ _ _ h => h) (by kernel_rfl) (Ext.stable _) hCD (yieldsU_val rfl (fun u0 hu => by go_simp)) ?_
  refine anyU_takeD (i := 1) (v := .int .i64 xa) 32 rfl rfl (by kernel_rfl) (by kernel_rfl) (by kernel_rfl) (fun _ _ _ h => h) (by kernel_rfl) (Ext.stable _) hCD (yieldsU_call rfl 20 _ _ rfl #[.int .u32 a] (by simp [Act.eval, Act.put]) (fun u => by go_simp) (fun u hu => (secret_is a xa u HA0 HSA).mono fun q w' hq => by obtain ⟨h1, h2⟩ := hq; subst h2; exact ⟨h1, Below.refl _ _⟩)) ?_
  refine anyU_takeD (i := 2) (v := .int .u32 b) 33 rfl rfl (by kernel_rfl) (by kernel_rfl) (by kernel_rfl) (fun _ _ _ h => h) (by kernel_rfl) (Ext.stable _) hCD (yieldsU_val rfl (fun u0 hu => by go_simp)) ?_
  refine anyU_takeD (i := 3) (v := .int .i64 xb) 34 rfl rfl (by kernel_rfl) (by kernel_rfl) (by kernel_rfl) (fun _ _ _ h => h) (by kernel_rfl) (Ext.stable _) hCD (yieldsU_call rfl 20 _ _ rfl #[.int .u32 b] (by simp [Act.eval, Act.put]) (fun u => by go_simp) (fun u hu => (secret_is b xb u HB0 HSB).mono fun q w' hq => by obtain ⟨h1, h2⟩ := hq; subst h2; exact ⟨h1, Below.refl _ _⟩)) ?_
  simp only [Act.put, List.setIfInBounds_toArray, List.set_cons_succ, List.set_cons_zero]
  refine anyU_takeD (i := 4) (v := .agg (bv zs).toArray) 35 rfl rfl (by kernel_rfl) (by kernel_rfl) (by kernel_rfl) (fun _ _ _ h => h) (by kernel_rfl) (Ext.stable _) hCD (yieldsU_of_C (yields_loadD (by rfl) (.tmp 8) rfl w.heap.size rfl zs hl.out (fun u hu => D3.out.bel hu))) ?_
  refine anyU_takeD (i := 5) (v := .int .i64 n) 36 rfl rfl (by kernel_rfl) (by kernel_rfl) (by kernel_rfl) (fun _ _ _ h => h) (by kernel_rfl) (Ext.stable _) hCD (yieldsU_val rfl (fun u0 hu => by go_simp)) ?_
  refine anyU_takeD (i := 6) (v := .int .i64 nn) 37 rfl rfl (by kernel_rfl) (by kernel_rfl) (by kernel_rfl) (fun _ _ _ h => h) (by kernel_rfl) (Ext.stable _) hCD (yieldsU_call rfl 22 _ _ rfl #[.int .i64 n] (by simp [Act.eval, Act.put]) (fun u => by go_simp) (fun u hu => (value_is n nn u HN0 HNN).mono fun q w' hq => by obtain ⟨h1, h2⟩ := hq; subst h2; exact ⟨h1, Below.refl _ _⟩)) ?_
  simp only [Act.put, List.setIfInBounds_toArray, List.set_cons_succ, List.set_cons_zero]
  refine anyU_takeD (i := 7) (v := .int .i64 u) 38 rfl rfl (by kernel_rfl) (by kernel_rfl) (by kernel_rfl) (fun _ _ _ h => h) (by kernel_rfl) (Ext.stable _) hCD (yieldsU_val rfl (fun u0 hu => by go_simp)) ?_
  refine anyU_takeD (i := 8) (v := .int .i64 v) 39 rfl rfl (by kernel_rfl) (by kernel_rfl) (by kernel_rfl) (fun _ _ _ h => h) (by kernel_rfl) (Ext.stable _) hCD (yieldsU_val rfl (fun u0 hu => by go_simp)) ?_
  refine anyU_takeD (i := 9) (v := .tuple #[.agg (stv zs nn h S).toArray, .int .i64 r, .int .i64 c, .int .i64 s, .bool true]) 40 rfl rfl (by kernel_rfl) (by kernel_rfl) (by kernel_rfl) (fun _ _ _ h => h) (by kernel_rfl) (Ext.stable _) hCD (yieldsU_call rfl 21 _ _ rfl #[.int .i64 xa, .int .i64 xb, .agg (bv zs).toArray, .int .i64 nn, .int .i64 u, .int .i64 v] (by simp [Act.eval, Act.put]) (fun u => by go_simp) (fun u0 hu => issued_is xa xb zs nn u v key r pt h c y s S z u0 hl hr HVN HXA HXB (Lib.hid ((hk.out.below B3.out).below hu)) HEX)) ?_
  simp only [Act.put, List.setIfInBounds_toArray, List.set_cons_succ, List.set_cons_zero]
  refine anyU_takeD (i := 10) (v := .tuple #[.agg (stv zs nn h S).toArray, .int .i64 r, .int .i64 c, .int .i64 s, .bool true]) 30 rfl rfl (by kernel_rfl) (by kernel_rfl) (by kernel_rfl) (fun _ _ _ h => h) (by kernel_rfl) (Ext.stable _) hCD (yieldsU_val rfl (fun u hu => by go_simp)) ?_
  refine anyU_takeD (i := 11) (v := .agg (stv zs nn h S).toArray) 41 rfl rfl (by kernel_rfl) (by kernel_rfl) (by kernel_rfl) (fun _ _ _ h => h) (by kernel_rfl) (Ext.stable _) hCD (yieldsU_val rfl (fun u hu => by go_simp)) ?_
  refine anyU_takeD (i := 12) (v := .int .i64 r) 42 rfl rfl (by kernel_rfl) (by kernel_rfl) (by kernel_rfl) (fun _ _ _ h => h) (by kernel_rfl) (Ext.stable _) hCD (yieldsU_val rfl (fun u hu => by go_simp)) ?_
  refine anyU_takeD (i := 13) (v := .int .i64 c) 43 rfl rfl (by kernel_rfl) (by kernel_rfl) (by kernel_rfl) (fun _ _ _ h => h) (by kernel_rfl) (Ext.stable _) hCD (yieldsU_val rfl (fun u hu => by go_simp)) ?_
  refine anyU_takeD (i := 14) (v := .int .i64 s) 44 rfl rfl (by kernel_rfl) (by kernel_rfl) (by kernel_rfl) (fun _ _ _ h => h) (by kernel_rfl) (Ext.stable _) hCD (yieldsU_val rfl (fun u hu => by go_simp)) ?_
  refine anyU_takeD (i := 15) (v := .bool true) 45 rfl rfl (by kernel_rfl) (by kernel_rfl) (by kernel_rfl) (fun _ _ _ h => h) (by kernel_rfl) (Ext.stable _) hCD (yieldsU_val rfl (fun u hu => by go_simp)) ?_
  simp only [Act.put, List.setIfInBounds_toArray, List.set_cons_succ, List.set_cons_zero]
  refine anyU_one 16 5 _ rfl rfl (by kernel_rfl) ?_
  intro u1 hu
  go_wp2_with fail
  change ∃ C' : World → Prop, _ ∧ _ ∧ _ ∧ anyU _ _ _ _ _ _ 5 _ _ _
  have X1 := Lib.hid (SBlk.new u1 27)
  have E1 := Lib.hid (Ext.trans hu (bel_alloc1 u1 (.cells #[.int .u8 0, .int .u8 0, .int .u8 0, .int .u8 0, .int .u8 0, .int .u8 0, .int .u8 0, .int .u8 0, .int .u8 0, .int .u8 0, .int .u8 0, .int .u8 0, .int .u8 0, .int .u8 0, .int .u8 0, .int .u8 0, .int .u8 0, .int .u8 0, .int .u8 0, .int .u8 0, .int .u8 0, .int .u8 0, .int .u8 0, .int .u8 0, .int .u8 0, .int .u8 0, .int .u8 0, .int .u8 0, .int .u8 0, .int .u8 0, .int .u8 0, .int .u8 0, .int .i64 0, .int .i64 0, .int .i64 0] 27)))
  have lw := hu.size
  generalize World.alloc u1 _ = u2 at X1 E1 ⊢
  obtain ⟨rb, hrb⟩ : ∃ q, u1.heap.size = q := ⟨_, rfl⟩
  rw [hrb] at X1 lw ⊢
  clear hu hrb
  refine anchorF (fun z => Ext W z ∧ SBlk z rb 27 (List.replicate 32 0) 0 0 0) (fun z hz => hz.1) ((Ext.stable W).and (fun y z h k => h.bel k)) ⟨E1.out, X1.out⟩ ?_
  (try simp only [Act.put])
  refine anyU_one 17 4 _ rfl rfl (by kernel_rfl) ?_
  intro u3 hu
  refine list_storeApi rfl (.tmp 15) (.tmp 41) rfl rb rfl zs nn h S rfl hl.out 27 _ _ _ _ hu.2 ?_
  intro u4 q4 k4
  change ∃ C' : World → Prop, _ ∧ _ ∧ _ ∧ anyU _ _ _ _ _ _ 4 _ _ _
  have E4 := Lib.hid (show Ext W u4 from Below.trans hu.1 (k4.below lw))
  have X4 := Lib.hid q4
  clear hu q4 k4 X1 E1
  refine anchorF (fun z => Ext W z ∧ SBlk z rb 27 zs nn h S) (fun z hz => hz.1) ((Ext.stable W).and (fun y z h k => h.bel k)) ⟨E4.out, X4.out⟩ ?_
  (try simp only [Act.put])
  refine anyU_takeD (i := 18) (v := .int .i64 r) 16 rfl rfl (by kernel_rfl) (by kernel_rfl) (by kernel_rfl) (fun _ _ _ h => h) (by kernel_rfl) ((Ext.stable W).and (fun y z h k => h.bel k)) (fun z hz => hz.1) (yieldsU_val rfl (fun u hu => by go_simp)) ?_
  refine anyU_takeD (i := 19) (v := .int .i64 c) 17 rfl rfl (by kernel_rfl) (by kernel_rfl) (by kernel_rfl) (fun _ _ _ h => h) (by kernel_rfl) ((Ext.stable W).and (fun y z h k => h.bel k)) (fun z hz => hz.1) (yieldsU_val rfl (fun u hu => by go_simp)) ?_
  refine anyU_takeD (i := 20) (v := .int .i64 s) 18 rfl rfl (by kernel_rfl) (by kernel_rfl) (by kernel_rfl) (fun _ _ _ h => h) (by kernel_rfl) ((Ext.stable W).and (fun y z h k => h.bel k)) (fun z hz => hz.1) (yieldsU_val rfl (fun u hu => by go_simp)) ?_
  simp only [Act.put, List.setIfInBounds_toArray, List.set_cons_succ, List.set_cons_zero]
  refine anyU_tail 21 [] rfl rfl (by decide) (by kernel_rfl) ?_
  intro u5 hu5
  simp only [Act.put, List.filterMap_cons, List.filterMap_nil, List.getElem?_cons_succ, List.getElem?_cons_zero]
  have B5 := Lib.hid (bel_trans B3.out hu5.1)
  have D5 := Lib.hid (D3.out.bel hu5.1)
  have X5 := Lib.hid hu5.2
  clear hu5 E4 X4 D3 B3
  go_upto_region 5 with fail
  refine wp_region_any (by kernel_rfl) ?_
  change wpAny _ _ _ _ _ _ _ (World.drew _)
  generalize hWD : World.drew _ = W2
  have B6 := Lib.hid (show Below w.heap.size w W2 by rw [← hWD]; exact B5.out.drew)
  have D6 := Lib.hid (show Dg W2 w.heap.size zs by rw [← hWD]; exact D5.out)
  have X6 := Lib.hid (show SBlk W2 rb 27 zs nn h S by rw [← hWD]; exact X5.out)
  clear hWD
  have hCD : ∀ u, Ext W2 u → Ext W2 u := fun u hu => hu
  refine region_U (D := Ext W2) (Ext W2) [24] (Ext.refl W2) ?_
  refine anyU_takeD (i := 0) (v := .int .i64 0) 46 rfl rfl (by kernel_rfl) (by kernel_rfl) (by kernel_rfl) (fun _ _ _ h => h) (by kernel_rfl) (Ext.stable _) hCD (yieldsU_val rfl (fun u hu => by go_simp)) ?_
  refine anyU_takeD (i := 1) (v := .bool false) 47 rfl rfl (by kernel_rfl) (by kernel_rfl) (by kernel_rfl) (fun _ _ _ h => h) (by kernel_rfl) (Ext.stable _) hCD (yieldsU_val rfl (fun u hu => by go_simp)) ?_
  refine anyU_takeD (i := 2) (v := .bool false) 48 rfl rfl (by kernel_rfl) (by kernel_rfl) (by kernel_rfl) (fun _ _ _ h => h) (by kernel_rfl) (Ext.stable _) hCD (yieldsU_val rfl (fun u hu => by go_simp)) ?_
  refine anyU_takeD (i := 3) (v := .bool true) 49 rfl rfl (by kernel_rfl) (by kernel_rfl) (by kernel_rfl) (fun _ _ _ h => h) (by kernel_rfl) (Ext.stable _) hCD (yieldsU_val rfl (fun u hu => by go_simp)) ?_
  refine anyU_takeD (i := 4) (v := .bool false) 50 rfl rfl (by kernel_rfl) (by kernel_rfl) (by kernel_rfl) (fun _ _ _ h => h) (by kernel_rfl) (Ext.stable _) hCD (yieldsU_val rfl (fun u hu => by go_simp)) ?_
  refine anyU_takeD (i := 5) (v := .bool false) 51 rfl rfl (by kernel_rfl) (by kernel_rfl) (by kernel_rfl) (fun _ _ _ h => h) (by kernel_rfl) (Ext.stable _) hCD (yieldsU_val rfl (fun u hu => by go_simp)) ?_
  refine anyU_takeD (i := 6) (v := .bool false) 52 rfl rfl (by kernel_rfl) (by kernel_rfl) (by kernel_rfl) (fun _ _ _ h => h) (by kernel_rfl) (Ext.stable _) hCD (yieldsU_val rfl (fun u hu => by go_simp)) ?_
  simp only [Act.put, List.setIfInBounds_toArray, List.set_cons_succ, List.set_cons_zero]
  refine anyU_takeD (i := 7) (v := .pointer (some ⟨rb, 0, none⟩)) 53 rfl rfl (by kernel_rfl) (by kernel_rfl) (by kernel_rfl) (fun _ _ _ h => h) (by kernel_rfl) (Ext.stable _) hCD (yieldsU_val rfl (fun u hu => by go_simp)) ?_
  refine anyU_takeD (i := 8) (v := .agg (bv zs).toArray) 54 rfl rfl (by kernel_rfl) (by kernel_rfl) (by kernel_rfl) (fun _ _ _ h => h) (by kernel_rfl) (Ext.stable _) hCD (yieldsU_of_C (yields_loadM (by rfl) (.tmp 53) rfl rb 0 rfl zs hl.out (fun u hu => (X6.out.bel hu).bytes))) ?_
  refine anyU_takeD (i := 9) (v := .agg (bv zs).toArray) 55 rfl rfl (by kernel_rfl) (by kernel_rfl) (by kernel_rfl) (fun _ _ _ h => h) (by kernel_rfl) (Ext.stable _) hCD (yieldsU_of_C (yields_loadD (by rfl) (.tmp 8) rfl w.heap.size rfl zs hl.out (fun u hu => D6.out.bel hu))) ?_
  refine anyU_takeD (i := 10) (v := .bool false) 56 rfl rfl (by kernel_rfl) (by kernel_rfl) (by kernel_rfl) (fun _ _ _ h => h) (by kernel_rfl) (Ext.stable _) hCD (yieldsU_val rfl (fun u hu => by have EQ := eqDig_same zs hl.out; go_simp)) ?_
  refine anyU_takeD (i := 11) (v := .bool false) 57 rfl rfl (by kernel_rfl) (by kernel_rfl) (by kernel_rfl) (fun _ _ _ h => h) (by kernel_rfl) (Ext.stable _) hCD (yieldsU_val rfl (fun u hu => by go_simp)) ?_
  refine anyU_takeD (i := 12) (v := .bool false) 58 rfl rfl (by kernel_rfl) (by kernel_rfl) (by kernel_rfl) (fun _ _ _ h => h) (by kernel_rfl) (Ext.stable _) hCD (yieldsU_val rfl (fun u hu => by go_simp)) ?_
  simp only [Act.put, List.setIfInBounds_toArray, List.set_cons_succ, List.set_cons_zero]
  refine anyU_takeD (i := 13) (v := .pointer (some ⟨rb, 32, none⟩)) 59 rfl rfl (by kernel_rfl) (by kernel_rfl) (by kernel_rfl) (fun _ _ _ h => h) (by kernel_rfl) (Ext.stable _) hCD (yieldsU_val rfl (fun u hu => by go_simp)) ?_
  refine anyU_takeD (i := 14) (v := .int .i64 nn) 60 rfl rfl (by kernel_rfl) (by kernel_rfl) (by kernel_rfl) (fun _ _ _ h => h) (by kernel_rfl) (Ext.stable _) hCD (yieldsU_val rfl (fun u hu => by have cn := (X6.out.bel hu).cell; go_simp)) ?_
  refine anyU_takeD (i := 15) (v := .int .i64 n) 61 rfl rfl (by kernel_rfl) (by kernel_rfl) (by kernel_rfl) (fun _ _ _ h => h) (by kernel_rfl) (Ext.stable _) hCD (yieldsU_val rfl (fun u hu => by go_simp)) ?_
  refine anyU_takeD (i := 16) (v := .int .i64 nn) 62 rfl rfl (by kernel_rfl) (by kernel_rfl) (by kernel_rfl) (fun _ _ _ h => h) (by kernel_rfl) (Ext.stable _) hCD (yieldsU_call rfl 22 _ _ rfl #[.int .i64 n] (by simp [Act.eval, Act.put]) (fun u => by go_simp) (fun u hu => (value_is n nn u HN0 HNN).mono fun q w' hq => by obtain ⟨h1, h2⟩ := hq; subst h2; exact ⟨h1, Below.refl _ _⟩)) ?_
  refine anyU_takeD (i := 17) (v := .bool false) 63 rfl rfl (by kernel_rfl) (by kernel_rfl) (by kernel_rfl) (fun _ _ _ h => h) (by kernel_rfl) (Ext.stable _) hCD (yieldsU_val rfl (fun u hu => by go_simp)) ?_
  refine anyU_takeD (i := 18) (v := .bool false) 64 rfl rfl (by kernel_rfl) (by kernel_rfl) (by kernel_rfl) (fun _ _ _ h => h) (by kernel_rfl) (Ext.stable _) hCD (yieldsU_val rfl (fun u hu => by go_simp)) ?_
  refine anyU_takeD (i := 19) (v := .bool false) 65 rfl rfl (by kernel_rfl) (by kernel_rfl) (by kernel_rfl) (fun _ _ _ h => h) (by kernel_rfl) (Ext.stable _) hCD (yieldsU_val rfl (fun u hu => by go_simp)) ?_
  simp only [Act.put, List.setIfInBounds_toArray, List.set_cons_succ, List.set_cons_zero]
  refine anyU_takeD (i := 20) (v := .int .i64 key) 66 rfl rfl (by kernel_rfl) (by kernel_rfl) (by kernel_rfl) (fun _ _ _ h => h) (by kernel_rfl) (Ext.stable _) hCD (yieldsU_val rfl (fun u hu => by go_simp)) ?_
  refine anyU_takeD (i := 21) (v := .agg (stv zs nn h S).toArray) 67 rfl rfl (by kernel_rfl) (by kernel_rfl) (by kernel_rfl) (fun _ _ _ h => h) (by kernel_rfl) (Ext.stable _) hCD (yieldsU_of_C (yields_loadApi (by rfl) (.tmp 15) rfl rb 0 rfl zs nn h S hl.out (fun u hu => (X6.out.bel hu).1.range))) ?_
  refine anyU_takeD (i := 22) (v := .bool true) 68 rfl rfl (by kernel_rfl) (by kernel_rfl) (by kernel_rfl) (fun _ _ _ h => h) (by kernel_rfl) (Ext.stable _) hCD (yieldsU_call rfl 13 _ _ rfl #[.int .i64 key, .agg (stv zs nn h S).toArray] (by simp [Act.eval, Act.put]) (fun u => by go_simp) (fun u0 hu => scheck_any key zs nn h S true u0 hl hr (Lib.hid ((hk.out.below B6.out).below hu)) HVT)) ?_
  refine anyU_takeD (i := 23) (v := .bool false) 69 rfl rfl (by kernel_rfl) (by kernel_rfl) (by kernel_rfl) (fun _ _ _ h => h) (by kernel_rfl) (Ext.stable _) hCD (yieldsU_val rfl (fun u hu => by go_simp)) ?_
  simp only [Act.put, List.setIfInBounds_toArray, List.set_cons_succ, List.set_cons_zero]
  refine anyU_tail 24 [] rfl rfl (by decide) (by kernel_rfl) ?_
  intro u7 hu7
  simp only [Act.put, List.filterMap_cons, List.filterMap_nil, List.getElem?_cons_succ, List.getElem?_cons_zero]
  have B7 := Lib.hid (bel_trans B6.out hu7)
  have D7 := Lib.hid (D6.out.bel hu7)
  have X7 := Lib.hid (X6.out.bel hu7)
  clear hu7 X6 D6 B6
  obtain ⟨st, hst⟩ : ∃ st, strB zs = st := ⟨_, rfl⟩
  have HST := Lib.hid hst
  clear hst
  go_upto_region 7 with fail
  refine wp_region_any (by kernel_rfl) ?_
  change wpAny _ _ _ _ _ _ _ (World.drew _)
  generalize hWD : World.drew _ = W3
  have B8 := Lib.hid (show Below w.heap.size w W3 by rw [← hWD]; exact B7.out.drew)
  have D8 := Lib.hid (show Dg W3 w.heap.size zs by rw [← hWD]; exact D7.out)
  have X8 := Lib.hid (show SBlk W3 rb 27 zs nn h S by rw [← hWD]; exact X7.out)
  have ZW := Lib.hid (show SrcW W3 (some ⟨w.heap.size, 0, none⟩) 32 32 zs from .inl ⟨hl.out.symm, .inr ⟨w.heap.size, 0, rfl, D8.out.lt, D8.out.bytes⟩⟩)
  clear hWD
  have hCD : ∀ u, Ext W3 u → Ext W3 u := fun u hu => hu
  refine region_U (D := Ext W3) (Ext W3) [13] (Ext.refl W3) ?_
  refine anyU_takeD (i := 0) (v := .slice (some ⟨w.heap.size, 0, none⟩) 32 32) 72 rfl rfl (by kernel_rfl) (by kernel_rfl) (by kernel_rfl) (fun _ _ _ h => h) (by kernel_rfl) (Ext.stable _) hCD (yieldsU_val rfl (fun u hu => by go_simp)) ?_
  refine anyU_takeD (i := 1) (v := .string st) 73 rfl rfl (by kernel_rfl) (by kernel_rfl) (by kernel_rfl) (fun _ _ _ h => h) (by kernel_rfl) (Ext.stable _) hCD (yieldsU_val rfl (fun u hu => by have hc := conv_srcW (ZW.out.below hu); rw [HST.out] at hc; go_simp)) ?_
  refine anyU_takeD (i := 2) (v := .agg #[.int .i64 2, .int .i64 0, .string st, .slice none 0 0]) 74 rfl rfl (by kernel_rfl) (by kernel_rfl) (by kernel_rfl) (fun _ _ _ h => h) (by kernel_rfl) (Ext.stable _) hCD (yieldsU_val rfl (fun u hu => by go_simp)) ?_
  refine anyU_takeD (i := 3) (v := .int .i64 n) 75 rfl rfl (by kernel_rfl) (by kernel_rfl) (by kernel_rfl) (fun _ _ _ h => h) (by kernel_rfl) (Ext.stable _) hCD (yieldsU_val rfl (fun u hu => by go_simp)) ?_
  refine anyU_takeD (i := 4) (v := .int .i64 nn) 76 rfl rfl (by kernel_rfl) (by kernel_rfl) (by kernel_rfl) (fun _ _ _ h => h) (by kernel_rfl) (Ext.stable _) hCD (yieldsU_call rfl 22 _ _ rfl #[.int .i64 n] (by simp [Act.eval, Act.put]) (fun u => by go_simp) (fun u hu => (value_is n nn u HN0 HNN).mono fun q w' hq => by obtain ⟨h1, h2⟩ := hq; subst h2; exact ⟨h1, Below.refl _ _⟩)) ?_
  refine anyU_takeD (i := 5) (v := .agg #[.int .i64 1, .int .i64 nn, .string ⟨#[]⟩, .slice none 0 0]) 77 rfl rfl (by kernel_rfl) (by kernel_rfl) (by kernel_rfl) (fun _ _ _ h => h) (by kernel_rfl) (Ext.stable _) hCD (yieldsU_val rfl (fun u hu => by go_simp)) ?_
  simp only [Act.put, List.setIfInBounds_toArray, List.set_cons_succ, List.set_cons_zero]
  refine anyU_one 6 7 _ rfl rfl (by kernel_rfl) ?_
  intro u1 hu
  go_wp2_with fail
  change ∃ C' : World → Prop, _ ∧ _ ∧ _ ∧ anyU _ _ _ _ _ _ 7 _ _ _
  have Z1 := Lib.hid (Blk.new u1 #[.int .i64 2, .int .i64 0, .string st, .slice none 0 0, .int .i64 1, .int .i64 nn, .string ⟨#[]⟩, .slice none 0 0] 53)
  have E1 := Lib.hid (Ext.trans hu (bel_alloc1 u1 (.cells #[.int .i64 2, .int .i64 0, .string st, .slice none 0 0, .int .i64 1, .int .i64 nn, .string ⟨#[]⟩, .slice none 0 0] 53)))
  generalize World.alloc u1 _ = u2 at Z1 E1 ⊢
  generalize u1.heap.size = bb at Z1 ⊢
  clear hu
  refine anchorF (fun z => Ext W3 z ∧ Blk z bb #[.int .i64 2, .int .i64 0, .string st, .slice none 0 0, .int .i64 1, .int .i64 nn, .string ⟨#[]⟩, .slice none 0 0] 53) (fun z hz => hz.1) ((Ext.stable W3).and (fun y z h k => h.below k h.lt)) ⟨E1.out, Z1.out⟩ ?_
  (try simp only [Act.put])
  refine anyU_takeD (i := 7) (v := .agg #[.int .i64 3, .int .i64 0, .string ⟨#[]⟩, .slice (some ⟨bb, 0, none⟩) 2 2]) 79 rfl rfl (by kernel_rfl) (by kernel_rfl) (by kernel_rfl) (fun _ _ _ h => h) (by kernel_rfl) ((Ext.stable W3).and (fun y z h k => h.below k h.lt)) (fun z hz => hz.1) (yieldsU_val rfl (fun u hu => by go_simp)) ?_
  simp only [Act.put, List.setIfInBounds_toArray, List.set_cons_succ, List.set_cons_zero]
  refine anyU_one 8 5 _ rfl rfl (by kernel_rfl) ?_
  intro u3 hu3
  have Z3 := Lib.hid hu3.2
  have E3 := Lib.hid hu3.1
  clear hu3
  have HAT := Lib.hid (show AtomsAt u3 bb 0 [.text zs, .int nn] from by
    intro k hk
    have hk' : k < 2 := hk
    have hh := Z3.out
    rw [← HST.out] at hh
    rcases (by omega : k = 0 ∨ k = 1) with rfl | rfl
    · exact ⟨hh.cell 0, hh.cell 1, hh.cell 2, hh.cell 3⟩
    · exact ⟨hh.cell 4, hh.cell 5, hh.cell 6, hh.cell 7⟩)
  have HLN := Lib.hid (show 60 + lenA [.text zs, .int nn] ≤ 2000000000 by
    have := hl.out
    simp [lenA, Atom.sz]; omega)
  go_wp2_with (go_at_call 23; refine (encode_list [.text zs, .int nn] bb 0 2 2 u3 (Lib.hid rfl) (by omega) HOK Z3.out.lt HAT HLN).mono ?_; rintro e u4 ⟨v4, rfl, o4, hb⟩; have O4 := Lib.hid o4; have E4 := Lib.hid (bel_trans E3.out hb); clear o4 hb)
  change ∃ C' : World → Prop, _ ∧ _ ∧ _ ∧ anyU _ _ _ _ _ _ 5 _ _ _
  obtain ⟨p, cp, hv4, hz4, _, _, _⟩ := own8_src O4.out
  subst v4
  have Z4 := Lib.hid hz4
  clear hz4 O4 E3 Z3
  refine anchorF (fun z => Ext W3 z ∧ SrcV z p (encL [.text zs, .int nn]).length cp (encL [.text zs, .int nn])) (fun z hz => hz.1) ((Ext.stable W3).and (fun y z h k => h.below k)) ⟨E4.out, Z4.out⟩ ?_
  (try simp only [Act.put])
  refine anyU_takeD (i := 9) (v := .tuple #[.slice p (encL [.text zs, .int nn]).length cp, .int .i64 0]) 71 rfl rfl (by kernel_rfl) (by kernel_rfl) (by kernel_rfl) (fun _ _ _ h => h) (by kernel_rfl) ((Ext.stable W3).and (fun y z h k => h.below k)) (fun z hz => hz.1) (yieldsU_val rfl (fun u hu => by go_simp)) ?_
  refine anyU_takeD (i := 10) (v := .slice p (encL [.text zs, .int nn]).length cp) 81 rfl rfl (by kernel_rfl) (by kernel_rfl) (by kernel_rfl) (fun _ _ _ h => h) (by kernel_rfl) ((Ext.stable W3).and (fun y z h k => h.below k)) (fun z hz => hz.1) (yieldsU_val rfl (fun u hu => by go_simp)) ?_
  refine anyU_takeD (i := 11) (v := .int .i64 0) 82 rfl rfl (by kernel_rfl) (by kernel_rfl) (by kernel_rfl) (fun _ _ _ h => h) (by kernel_rfl) ((Ext.stable W3).and (fun y z h k => h.below k)) (fun z hz => hz.1) (yieldsU_val rfl (fun u hu => by go_simp)) ?_
  refine anyU_takeD (i := 12) (v := .slice p (encL [.text zs, .int nn]).length cp) 20 rfl rfl (by kernel_rfl) (by kernel_rfl) (by kernel_rfl) (fun _ _ _ h => h) (by kernel_rfl) ((Ext.stable W3).and (fun y z h k => h.below k)) (fun z hz => hz.1) (yieldsU_val rfl (fun u hu => by go_simp)) ?_
  simp only [Act.put, List.setIfInBounds_toArray, List.set_cons_succ, List.set_cons_zero]
  refine anyU_tail 13 [] rfl rfl (by decide) (by kernel_rfl) ?_
  intro u5 hu5
  simp only [Act.put, List.filterMap_cons, List.filterMap_nil, List.getElem?_cons_succ, List.getElem?_cons_zero]
  have B9 := Lib.hid (bel_trans B8.out hu5.1)
  have X9 := Lib.hid (X8.out.bel hu5.1)
  have Z9 := Lib.hid hu5.2
  have cS := X9.out.sig
  obtain ⟨cS1, cS2⟩ := cS
  clear hu5 E4 Z4 D8 X8 B8 ZW
  go_wp2_with (go_at_call 24; refine (rverify_is key h S p _ cp (encL [.text zs, .int nn]) _ HTX (Lib.hid (.inl Z9.out)) true HVR).mono ?_; rintro e u6 ⟨rfl, hb⟩; have B10 := Lib.hid (bel_trans B9.out hb); clear hb)
  go_ret
  exact ⟨rfl, B10.out⟩
theorem stampsIssued_walk (a b : Int) (zs : List Int) (n u v : Int) (w : World) (hl : Hid (zs.length = 32)) (hr : Hid (∀ z ∈ zs, 0 ≤ z ∧ z ≤ 255)) (hk : Hid (KeysAt w)) (HA0 : Hid (0 ≤ a ∧ a ≤ 4294967295)) (HB0 : Hid (0 ≤ b ∧ b ≤ 4294967295)) (HN0 : Hid ((Lit.int .i64 n).wf = true)) :
    Calls Tryz.prog 5 #[.int .u32 a, .int .u32 b, .agg (bv zs).toArray, .int .i64 n, .int .i64 u, .int .i64 v] w fun q w' => q = .returned (.bool true) ∧ Below w.heap.size w w' := by
  have HVN := valZ_ok n
  have hok := st_ok hl.out hr.out HVN
  obtain ⟨key, r, pt, h, c, y, s, S, z, hex⟩ := exR (1 + a % 1073741788) (1 + b % 1073741788) u v (encL [.text zs, .int (valZ n)])
  exact stampsIssued_yes a b zs n u v _ _ _ key r pt h c y s S z w hl hr hk HA0 HB0 (Lib.hid rfl) (Lib.hid rfl) HN0 (Lib.hid rfl) (Lib.hid HVN) (Lib.hid (sec_ok a)) (Lib.hid (sec_ok b)) (Lib.hid hex.hkey) (Lib.hid hex) (Lib.hid hok) (Lib.hid (st_tx hl.out hok)) (Lib.hid (.inr ⟨HVN, hex.ver⟩)) (Lib.hid hex.ver)

namespace stampsIssued
theorem readable : ∀ t ∈ Tryz.f5.params.toList, Tryz.prog.readableRec t = true ∧ t < Tryz.prog.types.size := by
  rw [Tryz.params5]
  intro t ht
  simp only [List.mem_cons, List.not_mem_nil, or_false] at ht
  rcases ht with rfl | rfl | rfl | rfl | rfl | rfl
  all_goals exact ⟨by kernel_rfl, by decide +kernel⟩

set_option maxRecDepth 100000 in
theorem lifted (os : Os) (started : os.Started) (H : Type) (enc : TypeId × Value → H) :
    ReturnsInHanded {} Tryz.checked os 5 .any (fun w args => (Rows.stampsIssuedSpec.pre enc Tryz.prog Tryz.f5 [] false w args ∧ laidMetH Tryz.prog laidK w) ∧ sizedMet enc Tryz.prog Tryz.f5 (OpenSpec.ofChange Rows.stampsIssuedSpec) false w args)
      (Rows.stampsIssuedSpec.post enc Tryz.prog Tryz.f5 false true false false) := by
  refine returnsInHanded_of_change_and (C := Tryz.checked) (X := fun w _ => laidMetH Tryz.prog laidK w) (fun _ _ _ hh h => h.of_heap hh) own_knob started (by kernel_rfl) Tryz.func5
    (ChangeSpec.witness_shaped (enc := enc) (C := Tryz.checked) (os := os) (X := fun w _ => laidMetH Tryz.prog laidK w) false (World.doorLaid Tryz.prog 400 os) #[.int .u32 0, .int .u32 0, .agg (bv (List.replicate 32 0)).toArray, .int .i64 0, .int .i64 0, .int .i64 0] 8 rfl (World.shaped_of_RefB (by kernel_rfl) (by kernel_rfl)) (by kernel_rfl) (by kernel_rfl) (by kernel_rfl) (door_met os _)) ?_
  intro W base args ds gs before hval0 hW _ _ hL _
  have hval : ∀ (j : Nat) t v, Tryz.f5.params[j]? = some t → args[j]? = some v → Value.okWide Tryz.prog W .any base t v := hval0
  have hW' := hW
  obtain ⟨p, q, hA0, hV, rfl, hfz, hnd⟩ := hW
  have hA : DataW.TrodAll enc Tryz.prog W 0 (fun _ => true) true Tryz.f5.params.toList args.toList ds p := hA0
  rw [Tryz.params5] at hA hval
  obtain ⟨v0, vs0, d0, ds0, p0, q0, hargs, rfl, rfl, h0, r0⟩ := trodAll_cons hA
  obtain ⟨v1, vs1, d1, ds1, p1, q1, rfl, rfl, rfl, h1, r1⟩ := trodAll_cons r0
  obtain ⟨v2, vs2, d2, ds2, p2, q2, rfl, rfl, rfl, h2, r2⟩ := trodAll_cons r1
  obtain ⟨v3, vs3, d3, ds3, p3, q3, rfl, rfl, rfl, h3, r3⟩ := trodAll_cons r2
  obtain ⟨v4, vs4, d4, ds4, p4, q4, rfl, rfl, rfl, h4, r4⟩ := trodAll_cons r3
  obtain ⟨v5, vs5, d5, ds5, p5, q5, rfl, rfl, rfl, h5, r5⟩ := trodAll_cons r4
  obtain ⟨rfl, rfl, rfl⟩ := trodAll_nil r5
  obtain rfl : args = #[v0, v1, v2, v3, v4, v5] := by cases args; simp_all
  obtain ⟨rfl, rfl⟩ := trodVars_none hV
  obtain ⟨a0, rfl, w0, x0⟩ := open_u32 Tryz.underlying42 (hval 0 42 v0 rfl rfl) h0
  obtain ⟨a1, rfl, w1, x1⟩ := open_u32 Tryz.underlying42 (hval 1 42 v1 rfl rfl) h1
  obtain ⟨z2, rfl, w2, x2⟩ := open_dig Tryz.underlying23 Tryz.underlying5 (by kernel_rfl) (by kernel_rfl) (hval 2 23 v2 rfl rfl) h2
  obtain ⟨a3, rfl, rfl, rfl, w3⟩ := open_int Tryz.underlying3 (hval 3 3 v3 rfl rfl) h3
  obtain ⟨a4, rfl, rfl, rfl, w4⟩ := open_int Tryz.underlying3 (hval 4 3 v4 rfl rfl) h4
  obtain ⟨a5, rfl, rfl, rfl, w5⟩ := open_int Tryz.underlying3 (hval 5 3 v5 rfl rfl) h5
  have hK := of_laid hL
  clear hA0 hval0
  refine (stampsIssued_walk a0 a1 z2 a3 a4 a5 W (Lib.hid w2) (Lib.hid x2) (Lib.hid hK) (Lib.hid ⟨w0, x0⟩) (Lib.hid ⟨w1, x1⟩) (Lib.hid w3)).mono fun e W' ⟨he, hb⟩ => ?_
  subst he
  exact ⟨_, rfl, law_post laid_out readable rfl rfl Tryz.underlying4 hW' rfl rfl rfl hb⟩

theorem over : Rows.stampsIssuedRow.holds Tryz.pinned (OpenSpec.ofChange Rows.stampsIssuedSpec) :=
  OpenClaim.holds_of_wide 5 Tryz.f5 rfl rfl rfl rfl rfl rfl rfl ⟨rfl, rfl, rfl, rfl, rfl⟩ rfl rfl rfl rfl rfl (by kernel_rfl) Tryz.func5 (by kernel_rfl)
    (of_decide_eq_true (by kernel_rfl)) (by unfold Func.isWrapper; first | (rw [if_pos (by decide +kernel)]; kernel_rfl) | (rw [if_neg (by decide +kernel)]; exact ⟨rfl, rfl⟩))
    (fun os started H enc _ => lifted os started H enc)

/-- the statement: the tied card -/
theorem proved : Rows.StampsIssuedCardSaid :=
  Claim7.holds_tied_plain_at .later [] [.data] true (true, "08aa77cb6b5e7032e714fb6e8234f1d1e81e8e126b602c27ba0bf5d0ec3bd074") true
    over (fun _ h => by cases h) (by kernel_rfl) (fun _ h => by cases h) stampsIssued_row_tie rfl ⟨rfl, rfl⟩ (by kernel_rfl) rfl
    (fun f fn hf hfn => by
      obtain rfl : f = 5 := Option.some.inj ((show Tryz.prog.funcNamed "franking/frankinglaw37.StampsIssued" = some 5 by kernel_rfl).symm.trans hf) |>.symm
      obtain rfl : fn = Tryz.f5 := (Option.some.inj (Tryz.func5.symm.trans hfn)).symm
      exact ⟨by kernel_rfl, fun j t ht => by
        rw [Tryz.params5] at ht
        have hm : t ∈ [42, 42, 23, 3, 3, 3] := by simpa using Array.mem_of_getElem? ht
        have hall : ([42, 42, 23, 3, 3, 3].all fun u => !Tryz.prog.wantsStandIn u) = true := by kernel_rfl
        exact (show Tryz.prog.wantsStandIn t = false by simpa using List.all_eq_true.1 hall t hm)⟩)
    (by kernel_rfl)
end stampsIssued
end Go.Proofs.YtjdkdhpippapmaaGreatDoor
