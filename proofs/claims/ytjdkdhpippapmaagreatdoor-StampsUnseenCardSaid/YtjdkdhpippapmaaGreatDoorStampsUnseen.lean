/- Each stamp fits each answer of the bank: of two stamps that it has issued, the second one comes, with some numbers, from what the bank has seen when it issued the first one. No condition. -/
import Derived.Test.YtjdkdhpippapmaaGreatDoorStpZE
import Derived.Test.YtjdkdhpippapmaaGreatDoorStpZD
namespace Go.Proofs.YtjdkdhpippapmaaGreatDoor
open Go.ChangeShapes Go.WideShapes Go.ChangeAt Go.RowKit Go.WideElems Go.Shelf
set_option linter.unusedVariables false
set_option linter.unusedSimpArgs false

set_option maxRecDepth 100000 in
set_option maxHeartbeats 8000000 in
theorem stampsUnseen_yes (a b c : Int) (zs ys : List Int) (m n u v : Int) (xa xb xc mm nn key r pt1 h1 c1 y1 s1 S1 z1 r2 pt2 h2 c2 y2 s2 S2 z2 U V pt : Int) (w : World) (hlzs : Hid (zs.length = 32)) (hrzs : Hid (∀ z ∈ zs, 0 ≤ z ∧ z ≤ 255)) (hlys : Hid (ys.length = 32)) (hrys : Hid (∀ z ∈ ys, 0 ≤ z ∧ z ≤ 255)) (hk : Hid (KeysAt w))
    (HA0 : Hid (0 ≤ a ∧ a ≤ 4294967295)) (HB0 : Hid (0 ≤ b ∧ b ≤ 4294967295)) (HC0 : Hid (0 ≤ c ∧ c ≤ 4294967295)) (Hm0 : Hid ((Lit.int .i64 m).wf = true)) (Hn0 : Hid ((Lit.int .i64 n).wf = true))
    (HSA : Hid (1 + a % 1073741788 = xa)) (HSB : Hid (1 + b % 1073741788 = xb)) (HSC : Hid (1 + c % 1073741788 = xc)) (Hmm : Hid (valZ m = mm)) (Hnn : Hid (valZ n = nn)) (HVM : Hid (valB mm = true)) (HVN : Hid (valB nn = true)) (HXA : Hid (secB xa = true)) (HXB : Hid (secB xb = true)) (HXC : Hid (secB xc = true)) (HKEY : Hid (IsPw 4 xa key)) (HEK : Hid (elB key = true)) (HER : Hid (elB r = true)) (HEXrb1 : Hid (ExR xa xb u v (encL [.text zs, .int mm]) key r pt1 h1 c1 y1 s1 S1 z1)) (HEXrb2 : Hid (ExR xa xc v u (encL [.text ys, .int nn]) key r2 pt2 h2 c2 y2 s2 S2 z2)) (HOK2 : Hid (∀ q ∈ [Atom.text ys, .int nn], q.ok)) (HTX2 : Hid (txOk (encL [.text ys, .int nn]))) (HSD : Hid (IsSides key r c1 s1 z1 z1)) (HV2 : Hid (IsVer key (encL [.text ys, .int nn]) h2 S2 true)) (HU : Hid (modQ (S2 - s1) = U)) (HV : Hid (modQ (c1 - h2) = V)) (HBP : Hid (IsBp key r U V pt)) (HCH : Hid (IsCh pt key (encL [.text ys, .int nn]) h2)) (HCC : Hid (modQ (h2 + V) = c1)) (HSU : Hid (modQ (s1 + U) = S2)) :
    Calls Tryz.prog 6 #[.int .u32 a, .int .u32 b, .int .u32 c, .agg (bv zs).toArray, .agg (bv ys).toArray, .int .i64 m, .int .i64 n, .int .i64 u, .int .i64 v] w fun q w' => q = .returned (.bool true) ∧ Below w.heap.size w w' := by
  have D0 := Lib.hid ((Dg.box w hlzs.out).alloc (.cells (bv ys).toArray 23))
  have Y0 := Lib.hid (show Dg ((w.alloc (.cells (bv zs).toArray 23)).alloc (.cells (bv ys).toArray 23)) (w.heap.size + 1) ys by have := Dg.box (w.alloc (.cells (bv zs).toArray 23)) hlys.out; simpa using this)
  have B0 := Lib.hid (show Below w.heap.size w ((w.alloc (.cells (bv zs).toArray 23)).alloc (.cells (bv ys).toArray 23)) from (bel_alloc1 w _).alloc (by simp) _)
  have EQ := eqSt_same ys nn h2 S2 hlys.out
  go_enter Tryz.func6, Tryz.ntmps6
  go_upto_region 4 with (first
    | (go_at_call 8; refine (sane37_any _ (Lib.hid (hk.out.below B0.out))).mono ?_; rintro e w1 ⟨rfl, hb⟩; have B1 := Lib.hid (bel_trans B0.out hb); have D1 := Lib.hid (D0.out.bel hb); have Y1 := Lib.hid (Y0.out.bel hb); clear hb)
    | (go_at_call 20; refine (secret_is a xa _ HA0 HSA).mono ?_; rintro e w' ⟨rfl, rfl⟩)
    | (go_at_call 19; refine (pub_is xa key _ HXA HKEY).mono ?_; rintro e w2 ⟨rfl, hb⟩; have B2 := Lib.hid (bel_trans B1.out hb); have D2 := Lib.hid (D1.out.bel hb); have Y2 := Lib.hid (Y1.out.bel hb); clear hb))
  refine wp_region_any (by kernel_rfl) ?_
  change wpAny _ _ _ _ _ _ _ (World.drew _)
  generalize hWD : World.drew _ = W1
  have B3 := Lib.hid (show Below w.heap.size w W1 by rw [← hWD]; exact B2.out.drew)
  have D3 := Lib.hid (show Dg W1 w.heap.size zs by rw [← hWD]; exact D2.out)
  have Y3 := Lib.hid (show Dg W1 (w.heap.size + 1) ys by rw [← hWD]; exact Y2.out)
  clear hWD
  have hCD : ∀ u, Ext W1 u → Ext W1 u := fun u hu => hu
  refine region_U (D := Ext W1) (Ext W1) [21] (Ext.refl W1) ?_
  refine anyU_takeD (i := 0) (v := .int .u32 a) 47 rfl rfl (by kernel_rfl) (by kernel_rfl) (by kernel_rfl) (fun _ _ _ h => h) (by kernel_rfl) (Ext.stable _) hCD (yieldsU_val rfl (fun u0 hu => by go_simp)) ?_
  refine anyU_takeD (i := 1) (v := .int .i64 xa) 48 rfl rfl (by kernel_rfl) (by kernel_rfl) (by kernel_rfl) (fun _ _ _ h => h) (by kernel_rfl) (Ext.stable _) hCD (yieldsU_call rfl 20 _ _ rfl #[.int .u32 a] (by simp [Act.eval, Act.put]) (fun u => by go_simp) (fun u0 hu => (secret_is a xa _ HA0 HSA).mono fun q w' hq => by obtain ⟨h1, h2⟩ := hq; subst h2; exact ⟨h1, Below.refl _ _⟩)) ?_
  refine anyU_takeD (i := 2) (v := .int .u32 b) 49 rfl rfl (by kernel_rfl) (by kernel_rfl) (by kernel_rfl) (fun _ _ _ h => h) (by kernel_rfl) (Ext.stable _) hCD (yieldsU_val rfl (fun u0 hu => by go_simp)) ?_
  refine anyU_takeD (i := 3) (v := .int .i64 xb) 50 rfl rfl (by kernel_rfl) (by kernel_rfl) (by kernel_rfl) (fun _ _ _ h => h) (by kernel_rfl) (Ext.stable _) hCD (yieldsU_call rfl 20 _ _ rfl #[.int .u32 b] (by simp [Act.eval, Act.put]) (fun u => by go_simp) (fun u0 hu => (secret_is b xb _ HB0 HSB).mono fun q w' hq => by obtain ⟨h1, h2⟩ := hq; subst h2; exact ⟨h1, Below.refl _ _⟩)) ?_
  simp only [Act.put, List.setIfInBounds_toArray, List.set_cons_succ, List.set_cons_zero]
  refine anyU_takeD (i := 4) (v := .agg (bv zs).toArray) 51 rfl rfl (by kernel_rfl) (by kernel_rfl) (by kernel_rfl) (fun _ _ _ h => h) (by kernel_rfl) (Ext.stable _) hCD (yieldsU_of_C (yields_loadD (by rfl) (.tmp 12) rfl w.heap.size rfl zs hlzs.out (fun u0 hu => D3.out.bel hu))) ?_
  refine anyU_takeD (i := 5) (v := .int .i64 m) 52 rfl rfl (by kernel_rfl) (by kernel_rfl) (by kernel_rfl) (fun _ _ _ h => h) (by kernel_rfl) (Ext.stable _) hCD (yieldsU_val rfl (fun u0 hu => by go_simp)) ?_
  refine anyU_takeD (i := 6) (v := .int .i64 mm) 53 rfl rfl (by kernel_rfl) (by kernel_rfl) (by kernel_rfl) (fun _ _ _ h => h) (by kernel_rfl) (Ext.stable _) hCD (yieldsU_call rfl 22 _ _ rfl #[.int .i64 m] (by simp [Act.eval, Act.put]) (fun u => by go_simp) (fun u0 hu => (value_is m mm _ Hm0 Hmm).mono fun q w' hq => by obtain ⟨h1, h2⟩ := hq; subst h2; exact ⟨h1, Below.refl _ _⟩)) ?_
  simp only [Act.put, List.setIfInBounds_toArray, List.set_cons_succ, List.set_cons_zero]
  refine anyU_takeD (i := 7) (v := .int .i64 u) 54 rfl rfl (by kernel_rfl) (by kernel_rfl) (by kernel_rfl) (fun _ _ _ h => h) (by kernel_rfl) (Ext.stable _) hCD (yieldsU_val rfl (fun u0 hu => by go_simp)) ?_
  refine anyU_takeD (i := 8) (v := .int .i64 v) 55 rfl rfl (by kernel_rfl) (by kernel_rfl) (by kernel_rfl) (fun _ _ _ h => h) (by kernel_rfl) (Ext.stable _) hCD (yieldsU_val rfl (fun u0 hu => by go_simp)) ?_
  refine anyU_takeD (i := 9) (v := .tuple #[.agg (stv zs mm h1 S1).toArray, .int .i64 r, .int .i64 c1, .int .i64 s1, .bool true]) 56 rfl rfl (by kernel_rfl) (by kernel_rfl) (by kernel_rfl) (fun _ _ _ h => h) (by kernel_rfl) (Ext.stable _) hCD (yieldsU_call rfl 21 _ _ rfl #[.int .i64 xa, .int .i64 xb, .agg (bv zs).toArray, .int .i64 mm, .int .i64 u, .int .i64 v] (by simp [Act.eval, Act.put]) (fun u => by go_simp) (fun u0 hu => issued_is xa xb zs mm u v key r pt1 h1 c1 y1 s1 S1 z1 _ hlzs hrzs HVM HXA HXB (Lib.hid ((hk.out.below B3.out).below hu)) HEXrb1)) ?_
  simp only [Act.put, List.setIfInBounds_toArray, List.set_cons_succ, List.set_cons_zero]
  refine anyU_takeD (i := 10) (v := .tuple #[.agg (stv zs mm h1 S1).toArray, .int .i64 r, .int .i64 c1, .int .i64 s1, .bool true]) 46 rfl rfl (by kernel_rfl) (by kernel_rfl) (by kernel_rfl) (fun _ _ _ h => h) (by kernel_rfl) (Ext.stable _) hCD (yieldsU_val rfl (fun u0 hu => by go_simp)) ?_
  refine anyU_takeD (i := 11) (v := .agg (stv zs mm h1 S1).toArray) 57 rfl rfl (by kernel_rfl) (by kernel_rfl) (by kernel_rfl) (fun _ _ _ h => h) (by kernel_rfl) (Ext.stable _) hCD (yieldsU_val rfl (fun u0 hu => by go_simp)) ?_
  refine anyU_takeD (i := 12) (v := .int .i64 r) 58 rfl rfl (by kernel_rfl) (by kernel_rfl) (by kernel_rfl) (fun _ _ _ h => h) (by kernel_rfl) (Ext.stable _) hCD (yieldsU_val rfl (fun u0 hu => by go_simp)) ?_
  refine anyU_takeD (i := 13) (v := .int .i64 c1) 59 rfl rfl (by kernel_rfl) (by kernel_rfl) (by kernel_rfl) (fun _ _ _ h => h) (by kernel_rfl) (Ext.stable _) hCD (yieldsU_val rfl (fun u0 hu => by go_simp)) ?_
  refine anyU_takeD (i := 14) (v := .int .i64 s1) 60 rfl rfl (by kernel_rfl) (by kernel_rfl) (by kernel_rfl) (fun _ _ _ h => h) (by kernel_rfl) (Ext.stable _) hCD (yieldsU_val rfl (fun u0 hu => by go_simp)) ?_
  refine anyU_takeD (i := 15) (v := .bool true) 61 rfl rfl (by kernel_rfl) (by kernel_rfl) (by kernel_rfl) (fun _ _ _ h => h) (by kernel_rfl) (Ext.stable _) hCD (yieldsU_val rfl (fun u0 hu => by go_simp)) ?_
  simp only [Act.put, List.setIfInBounds_toArray, List.set_cons_succ, List.set_cons_zero]
  refine anyU_one 16 5 _ rfl rfl (by kernel_rfl) ?_
  intro u1 hu
  go_wp2_with fail
  change ∃ C' : World → Prop, _ ∧ _ ∧ _ ∧ anyU _ _ _ _ _ _ 5 _ _ _
  have X1 := Lib.hid (SBlk.new u1 27)
  have E1 := Lib.hid (Ext.trans hu (bel_alloc1 u1 (.cells #[.int .u8 0, .int .u8 0, .int .u8 0, .int .u8 0, .int .u8 0, .int .u8 0, .int .u8 0, .int .u8 0, .int .u8 0, .int .u8 0, .int .u8 0, .int .u8 0, .int .u8 0, .int .u8 0, .int .u8 0, .int .u8 0, .int .u8 0, .int .u8 0, .int .u8 0, .int .u8 0, .int .u8 0, .int .u8 0, .int .u8 0, .int .u8 0, .int .u8 0, .int .u8 0, .int .u8 0, .int .u8 0, .int .u8 0, .int .u8 0, .int .u8 0, .int .u8 0, .int .i64 0, .int .i64 0, .int .i64 0] 27)))
  have lw := hu.size
  generalize World.alloc u1 _ = u2 at X1 E1 ⊢
  obtain ⟨rb1, hrb⟩ : ∃ q, u1.heap.size = q := ⟨_, rfl⟩
  rw [hrb] at X1 lw ⊢
  clear hu hrb
  refine anchorF (fun z => Ext W1 z ∧ SBlk z rb1 27 (List.replicate 32 0) 0 0 0) (fun z hz => hz.1) ((Ext.stable W1).and (fun y z h k => h.bel k)) ⟨E1.out, X1.out⟩ ?_
  (try simp only [Act.put])
  refine anyU_one 17 4 _ rfl rfl (by kernel_rfl) ?_
  intro u3 hu
  refine list_storeApi rfl (.tmp 21) (.tmp 57) rfl rb1 rfl zs mm h1 S1 rfl (hlzs.out) 27 _ _ _ _ hu.2 ?_
  intro u4 q4 k4
  change ∃ C' : World → Prop, _ ∧ _ ∧ _ ∧ anyU _ _ _ _ _ _ 4 _ _ _
  have E4 := Lib.hid (show Ext W1 u4 from Below.trans hu.1 (k4.below lw))
  have X4 := Lib.hid q4
  clear hu q4 k4 X1 E1
  refine anchorF (fun z => Ext W1 z ∧ SBlk z rb1 27 zs mm h1 S1) (fun z hz => hz.1) ((Ext.stable W1).and (fun y z h k => h.bel k)) ⟨E4.out, X4.out⟩ ?_
  (try simp only [Act.put])
  refine anyU_takeD (i := 18) (v := .int .i64 r) 22 rfl rfl (by kernel_rfl) (by kernel_rfl) (by kernel_rfl) (fun _ _ _ h => h) (by kernel_rfl) ((Ext.stable W1).and (fun y z h k => h.bel k)) (fun z hz => hz.1) (yieldsU_val rfl (fun u hu => by go_simp)) ?_
  refine anyU_takeD (i := 19) (v := .int .i64 c1) 23 rfl rfl (by kernel_rfl) (by kernel_rfl) (by kernel_rfl) (fun _ _ _ h => h) (by kernel_rfl) ((Ext.stable W1).and (fun y z h k => h.bel k)) (fun z hz => hz.1) (yieldsU_val rfl (fun u hu => by go_simp)) ?_
  refine anyU_takeD (i := 20) (v := .int .i64 s1) 24 rfl rfl (by kernel_rfl) (by kernel_rfl) (by kernel_rfl) (fun _ _ _ h => h) (by kernel_rfl) ((Ext.stable W1).and (fun y z h k => h.bel k)) (fun z hz => hz.1) (yieldsU_val rfl (fun u hu => by go_simp)) ?_
  simp only [Act.put, List.setIfInBounds_toArray, List.set_cons_succ, List.set_cons_zero]
  refine anyU_tail 21 [] rfl rfl (by decide) (by kernel_rfl) ?_
  intro u5 hu5
  simp only [Act.put, List.filterMap_cons, List.filterMap_nil, List.getElem?_cons_succ, List.getElem?_cons_zero]
  have B4 := Lib.hid (bel_trans B3.out hu5.1)
  have D4 := Lib.hid (D3.out.bel hu5.1)
  have Y4 := Lib.hid (Y3.out.bel hu5.1)
  clear hu5 E4 X4
  go_upto_region 5 with fail
  refine wp_region_any (by kernel_rfl) ?_
  change wpAny _ _ _ _ _ _ _ (World.drew _)
  generalize hWD : World.drew _ = W2
  have B5 := Lib.hid (show Below w.heap.size w W2 by rw [← hWD]; exact B4.out.drew)
  have D5 := Lib.hid (show Dg W2 w.heap.size zs by rw [← hWD]; exact D4.out)
  have Y5 := Lib.hid (show Dg W2 (w.heap.size + 1) ys by rw [← hWD]; exact Y4.out)
  clear hWD
  have hCD : ∀ u, Ext W2 u → Ext W2 u := fun u hu => hu
  refine region_U (D := Ext W2) (Ext W2) [21] (Ext.refl W2) ?_
  refine anyU_takeD (i := 0) (v := .int .u32 a) 63 rfl rfl (by kernel_rfl) (by kernel_rfl) (by kernel_rfl) (fun _ _ _ h => h) (by kernel_rfl) (Ext.stable _) hCD (yieldsU_val rfl (fun u0 hu => by go_simp)) ?_
  refine anyU_takeD (i := 1) (v := .int .i64 xa) 64 rfl rfl (by kernel_rfl) (by kernel_rfl) (by kernel_rfl) (fun _ _ _ h => h) (by kernel_rfl) (Ext.stable _) hCD (yieldsU_call rfl 20 _ _ rfl #[.int .u32 a] (by simp [Act.eval, Act.put]) (fun u => by go_simp) (fun u0 hu => (secret_is a xa _ HA0 HSA).mono fun q w' hq => by obtain ⟨h1, h2⟩ := hq; subst h2; exact ⟨h1, Below.refl _ _⟩)) ?_
  refine anyU_takeD (i := 2) (v := .int .u32 c) 65 rfl rfl (by kernel_rfl) (by kernel_rfl) (by kernel_rfl) (fun _ _ _ h => h) (by kernel_rfl) (Ext.stable _) hCD (yieldsU_val rfl (fun u0 hu => by go_simp)) ?_
  refine anyU_takeD (i := 3) (v := .int .i64 xc) 66 rfl rfl (by kernel_rfl) (by kernel_rfl) (by kernel_rfl) (fun _ _ _ h => h) (by kernel_rfl) (Ext.stable _) hCD (yieldsU_call rfl 20 _ _ rfl #[.int .u32 c] (by simp [Act.eval, Act.put]) (fun u => by go_simp) (fun u0 hu => (secret_is c xc _ HC0 HSC).mono fun q w' hq => by obtain ⟨h1, h2⟩ := hq; subst h2; exact ⟨h1, Below.refl _ _⟩)) ?_
  simp only [Act.put, List.setIfInBounds_toArray, List.set_cons_succ, List.set_cons_zero]
  refine anyU_takeD (i := 4) (v := .agg (bv ys).toArray) 67 rfl rfl (by kernel_rfl) (by kernel_rfl) (by kernel_rfl) (fun _ _ _ h => h) (by kernel_rfl) (Ext.stable _) hCD (yieldsU_of_C (yields_loadD (by rfl) (.tmp 13) rfl (w.heap.size + 1) rfl ys hlys.out (fun u0 hu => Y5.out.bel hu))) ?_
  refine anyU_takeD (i := 5) (v := .int .i64 n) 68 rfl rfl (by kernel_rfl) (by kernel_rfl) (by kernel_rfl) (fun _ _ _ h => h) (by kernel_rfl) (Ext.stable _) hCD (yieldsU_val rfl (fun u0 hu => by go_simp)) ?_
  refine anyU_takeD (i := 6) (v := .int .i64 nn) 69 rfl rfl (by kernel_rfl) (by kernel_rfl) (by kernel_rfl) (fun _ _ _ h => h) (by kernel_rfl) (Ext.stable _) hCD (yieldsU_call rfl 22 _ _ rfl #[.int .i64 n] (by simp [Act.eval, Act.put]) (fun u => by go_simp) (fun u0 hu => (value_is n nn _ Hn0 Hnn).mono fun q w' hq => by obtain ⟨h1, h2⟩ := hq; subst h2; exact ⟨h1, Below.refl _ _⟩)) ?_
  simp only [Act.put, List.setIfInBounds_toArray, List.set_cons_succ, List.set_cons_zero]
  refine anyU_takeD (i := 7) (v := .int .i64 v) 70 rfl rfl (by kernel_rfl) (by kernel_rfl) (by kernel_rfl) (fun _ _ _ h => h) (by kernel_rfl) (Ext.stable _) hCD (yieldsU_val rfl (fun u0 hu => by go_simp)) ?_
  refine anyU_takeD (i := 8) (v := .int .i64 u) 71 rfl rfl (by kernel_rfl) (by kernel_rfl) (by kernel_rfl) (fun _ _ _ h => h) (by kernel_rfl) (Ext.stable _) hCD (yieldsU_val rfl (fun u0 hu => by go_simp)) ?_
  refine anyU_takeD (i := 9) (v := .tuple #[.agg (stv ys nn h2 S2).toArray, .int .i64 r2, .int .i64 c2, .int .i64 s2, .bool true]) 72 rfl rfl (by kernel_rfl) (by kernel_rfl) (by kernel_rfl) (fun _ _ _ h => h) (by kernel_rfl) (Ext.stable _) hCD (yieldsU_call rfl 21 _ _ rfl #[.int .i64 xa, .int .i64 xc, .agg (bv ys).toArray, .int .i64 nn, .int .i64 v, .int .i64 u] (by simp [Act.eval, Act.put]) (fun u => by go_simp) (fun u0 hu => issued_is xa xc ys nn v u key r2 pt2 h2 c2 y2 s2 S2 z2 _ hlys hrys HVN HXA HXC (Lib.hid ((hk.out.below B5.out).below hu)) HEXrb2)) ?_
  simp only [Act.put, List.setIfInBounds_toArray, List.set_cons_succ, List.set_cons_zero]
  refine anyU_takeD (i := 10) (v := .tuple #[.agg (stv ys nn h2 S2).toArray, .int .i64 r2, .int .i64 c2, .int .i64 s2, .bool true]) 62 rfl rfl (by kernel_rfl) (by kernel_rfl) (by kernel_rfl) (fun _ _ _ h => h) (by kernel_rfl) (Ext.stable _) hCD (yieldsU_val rfl (fun u0 hu => by go_simp)) ?_
  refine anyU_takeD (i := 11) (v := .agg (stv ys nn h2 S2).toArray) 73 rfl rfl (by kernel_rfl) (by kernel_rfl) (by kernel_rfl) (fun _ _ _ h => h) (by kernel_rfl) (Ext.stable _) hCD (yieldsU_val rfl (fun u0 hu => by go_simp)) ?_
  refine anyU_takeD (i := 12) (v := .int .i64 r2) 74 rfl rfl (by kernel_rfl) (by kernel_rfl) (by kernel_rfl) (fun _ _ _ h => h) (by kernel_rfl) (Ext.stable _) hCD (yieldsU_val rfl (fun u0 hu => by go_simp)) ?_
  refine anyU_takeD (i := 13) (v := .int .i64 c2) 75 rfl rfl (by kernel_rfl) (by kernel_rfl) (by kernel_rfl) (fun _ _ _ h => h) (by kernel_rfl) (Ext.stable _) hCD (yieldsU_val rfl (fun u0 hu => by go_simp)) ?_
  refine anyU_takeD (i := 14) (v := .int .i64 s2) 76 rfl rfl (by kernel_rfl) (by kernel_rfl) (by kernel_rfl) (fun _ _ _ h => h) (by kernel_rfl) (Ext.stable _) hCD (yieldsU_val rfl (fun u0 hu => by go_simp)) ?_
  refine anyU_takeD (i := 15) (v := .bool true) 77 rfl rfl (by kernel_rfl) (by kernel_rfl) (by kernel_rfl) (fun _ _ _ h => h) (by kernel_rfl) (Ext.stable _) hCD (yieldsU_val rfl (fun u0 hu => by go_simp)) ?_
  simp only [Act.put, List.setIfInBounds_toArray, List.set_cons_succ, List.set_cons_zero]
  refine anyU_one 16 5 _ rfl rfl (by kernel_rfl) ?_
  intro u1 hu
  go_wp2_with fail
  change ∃ C' : World → Prop, _ ∧ _ ∧ _ ∧ anyU _ _ _ _ _ _ 5 _ _ _
  have X1 := Lib.hid (SBlk.new u1 27)
  have E1 := Lib.hid (Ext.trans hu (bel_alloc1 u1 (.cells #[.int .u8 0, .int .u8 0, .int .u8 0, .int .u8 0, .int .u8 0, .int .u8 0, .int .u8 0, .int .u8 0, .int .u8 0, .int .u8 0, .int .u8 0, .int .u8 0, .int .u8 0, .int .u8 0, .int .u8 0, .int .u8 0, .int .u8 0, .int .u8 0, .int .u8 0, .int .u8 0, .int .u8 0, .int .u8 0, .int .u8 0, .int .u8 0, .int .u8 0, .int .u8 0, .int .u8 0, .int .u8 0, .int .u8 0, .int .u8 0, .int .u8 0, .int .u8 0, .int .i64 0, .int .i64 0, .int .i64 0] 27)))
  have lw := hu.size
  generalize World.alloc u1 _ = u2 at X1 E1 ⊢
  obtain ⟨rb2, hrb⟩ : ∃ q, u1.heap.size = q := ⟨_, rfl⟩
  rw [hrb] at X1 lw ⊢
  clear hu hrb
  refine anchorF (fun z => Ext W2 z ∧ SBlk z rb2 27 (List.replicate 32 0) 0 0 0) (fun z hz => hz.1) ((Ext.stable W2).and (fun y z h k => h.bel k)) ⟨E1.out, X1.out⟩ ?_
  (try simp only [Act.put])
  refine anyU_one 17 4 _ rfl rfl (by kernel_rfl) ?_
  intro u3 hu
  refine list_storeApi rfl (.tmp 26) (.tmp 73) rfl rb2 rfl ys nn h2 S2 rfl (hlys.out) 27 _ _ _ _ hu.2 ?_
  intro u4 q4 k4
  change ∃ C' : World → Prop, _ ∧ _ ∧ _ ∧ anyU _ _ _ _ _ _ 4 _ _ _
  have E4 := Lib.hid (show Ext W2 u4 from Below.trans hu.1 (k4.below lw))
  have X4 := Lib.hid q4
  clear hu q4 k4 X1 E1
  refine anchorF (fun z => Ext W2 z ∧ SBlk z rb2 27 ys nn h2 S2) (fun z hz => hz.1) ((Ext.stable W2).and (fun y z h k => h.bel k)) ⟨E4.out, X4.out⟩ ?_
  (try simp only [Act.put])
  refine anyU_takeD (i := 18) (v := .int .i64 r2) 27 rfl rfl (by kernel_rfl) (by kernel_rfl) (by kernel_rfl) (fun _ _ _ h => h) (by kernel_rfl) ((Ext.stable W2).and (fun y z h k => h.bel k)) (fun z hz => hz.1) (yieldsU_val rfl (fun u hu => by go_simp)) ?_
  refine anyU_takeD (i := 19) (v := .int .i64 c2) 28 rfl rfl (by kernel_rfl) (by kernel_rfl) (by kernel_rfl) (fun _ _ _ h => h) (by kernel_rfl) ((Ext.stable W2).and (fun y z h k => h.bel k)) (fun z hz => hz.1) (yieldsU_val rfl (fun u hu => by go_simp)) ?_
  refine anyU_takeD (i := 20) (v := .int .i64 s2) 29 rfl rfl (by kernel_rfl) (by kernel_rfl) (by kernel_rfl) (fun _ _ _ h => h) (by kernel_rfl) ((Ext.stable W2).and (fun y z h k => h.bel k)) (fun z hz => hz.1) (yieldsU_val rfl (fun u hu => by go_simp)) ?_
  simp only [Act.put, List.setIfInBounds_toArray, List.set_cons_succ, List.set_cons_zero]
  refine anyU_tail 21 [] rfl rfl (by decide) (by kernel_rfl) ?_
  intro u5 hu5
  simp only [Act.put, List.filterMap_cons, List.filterMap_nil, List.getElem?_cons_succ, List.getElem?_cons_zero]
  have B6 := Lib.hid (bel_trans B5.out hu5.1)
  have D6 := Lib.hid (D5.out.bel hu5.1)
  have Y6 := Lib.hid (Y5.out.bel hu5.1)
  have X6 := Lib.hid hu5.2
  clear hu5 E4 X4
  go_upto_region 8 with fail
  refine wp_region_any (by kernel_rfl) ?_
  change wpAny _ _ _ _ _ _ _ (World.drew _)
  generalize hWD : World.drew _ = W3
  have B7 := Lib.hid (show Below w.heap.size w W3 by rw [← hWD]; exact B6.out.drew)
  have D7 := Lib.hid (show Dg W3 w.heap.size zs by rw [← hWD]; exact D6.out)
  have Y7 := Lib.hid (show Dg W3 (w.heap.size + 1) ys by rw [← hWD]; exact Y6.out)
  have X7 := Lib.hid (show SBlk W3 rb2 27 ys nn h2 S2 by rw [← hWD]; exact X6.out)
  clear hWD
  have hCD : ∀ u, Ext W3 u → Ext W3 u := fun u hu => hu
  refine region_U (D := Ext W3) (Ext W3) [17] (Ext.refl W3) ?_
  refine anyU_takeD (i := 0) (v := .int .i64 key) 89 rfl rfl (by kernel_rfl) (by kernel_rfl) (by kernel_rfl) (fun _ _ _ h => h) (by kernel_rfl) (Ext.stable _) hCD (yieldsU_val rfl (fun u0 hu => by go_simp)) ?_
  refine anyU_takeD (i := 1) (v := .int .i64 r) 90 rfl rfl (by kernel_rfl) (by kernel_rfl) (by kernel_rfl) (fun _ _ _ h => h) (by kernel_rfl) (Ext.stable _) hCD (yieldsU_val rfl (fun u0 hu => by go_simp)) ?_
  refine anyU_takeD (i := 2) (v := .int .i64 c1) 91 rfl rfl (by kernel_rfl) (by kernel_rfl) (by kernel_rfl) (fun _ _ _ h => h) (by kernel_rfl) (Ext.stable _) hCD (yieldsU_val rfl (fun u0 hu => by go_simp)) ?_
  refine anyU_takeD (i := 3) (v := .int .i64 s1) 92 rfl rfl (by kernel_rfl) (by kernel_rfl) (by kernel_rfl) (fun _ _ _ h => h) (by kernel_rfl) (Ext.stable _) hCD (yieldsU_val rfl (fun u0 hu => by go_simp)) ?_
  refine anyU_takeD (i := 4) (v := .agg (bv ys).toArray) 93 rfl rfl (by kernel_rfl) (by kernel_rfl) (by kernel_rfl) (fun _ _ _ h => h) (by kernel_rfl) (Ext.stable _) hCD (yieldsU_of_C (yields_loadD (by rfl) (.tmp 13) rfl (w.heap.size + 1) rfl ys hlys.out (fun u0 hu => Y7.out.bel hu))) ?_
  refine anyU_takeD (i := 5) (v := .int .i64 n) 94 rfl rfl (by kernel_rfl) (by kernel_rfl) (by kernel_rfl) (fun _ _ _ h => h) (by kernel_rfl) (Ext.stable _) hCD (yieldsU_val rfl (fun u0 hu => by go_simp)) ?_
  refine anyU_takeD (i := 6) (v := .int .i64 nn) 95 rfl rfl (by kernel_rfl) (by kernel_rfl) (by kernel_rfl) (fun _ _ _ h => h) (by kernel_rfl) (Ext.stable _) hCD (yieldsU_call rfl 22 _ _ rfl #[.int .i64 n] (by simp [Act.eval, Act.put]) (fun u => by go_simp) (fun u0 hu => (value_is n nn _ Hn0 Hnn).mono fun q w' hq => by obtain ⟨h1, h2⟩ := hq; subst h2; exact ⟨h1, Below.refl _ _⟩)) ?_
  simp only [Act.put, List.setIfInBounds_toArray, List.set_cons_succ, List.set_cons_zero]
  refine anyU_takeD (i := 8) (v := .pointer (some ⟨rb2, 33, none⟩)) 97 rfl rfl (by kernel_rfl) (by kernel_rfl) (by kernel_rfl) (fun _ _ _ h => h) (by kernel_rfl) (Ext.stable _) hCD (yieldsU_val rfl (fun u0 hu => by go_simp)) ?_
  refine anyU_takeD (i := 9) (v := .agg #[.int .i64 h2, .int .i64 S2]) 98 rfl rfl (by kernel_rfl) (by kernel_rfl) (by kernel_rfl) (fun _ _ _ h => h) (by kernel_rfl) (Ext.stable _) hCD (yieldsU_val rfl (fun u0 hu => by obtain ⟨c33, c34⟩ := (X7.out.bel hu).sig; go_simp)) ?_
  simp only [Act.put, List.setIfInBounds_toArray, List.set_cons_succ, List.set_cons_zero]
  refine anyU_one 7 8 _ rfl rfl (by kernel_rfl) ?_
  intro u1 hu
  go_wp2_with (go_at_call 26; refine (rtext_is ys nn u1 hlys HOK2).mono ?_; rintro e u2 ⟨v2, rfl, o2, hb⟩; have O2 := Lib.hid o2; have B2 := Lib.hid (bel_trans hu hb); clear o2 hb)
  change ∃ C' : World → Prop, _ ∧ _ ∧ _ ∧ anyU _ _ _ _ _ _ 8 _ _ _
  obtain ⟨p, cp, hv2, hz2, _, _, _⟩ := own8_src O2.out
  subst v2
  have Z2 := Lib.hid hz2
  clear hz2 O2 hu
  refine anchorF (fun z => Ext W3 z ∧ SrcV z p (encL [.text ys, .int nn]).length cp (encL [.text ys, .int nn])) (fun z hz => hz.1) ((Ext.stable W3).and (fun y z h k => h.below k)) ⟨B2.out, Z2.out⟩ ?_
  (try simp only [Act.put])
  refine anyU_one 10 7 _ rfl rfl (by kernel_rfl) ?_
  intro u3 hu3
  have Z3 := Lib.hid hu3.2
  have E3 := Lib.hid hu3.1
  clear hu3
  go_wp2_with (go_at_call 25; refine (link_yes key r c1 s1 h2 S2 p _ cp (encL [.text ys, .int nn]) _ HEK HER z1 z1 HSD (by simp) HTX2 (Lib.hid (.inl Z3.out)) (Lib.hid ((hk.out.below B7.out).below E3.out)) HV2 U V HU HV).mono ?_; rintro e u4 ⟨rfl, hb⟩; have E4 := Lib.hid (bel_trans E3.out hb); clear hb)
  change ∃ C' : World → Prop, _ ∧ _ ∧ _ ∧ anyU _ _ _ _ _ _ 7 _ _ _
  clear Z3 E3
  refine anchorF (fun z => Ext W3 z) hCD (Ext.stable W3) E4.out ?_
  (try simp only [Act.put])
  refine anyU_takeD (i := 11) (v := .tuple #[.int .i64 U, .int .i64 V, .bool true]) 88 rfl rfl (by kernel_rfl) (by kernel_rfl) (by kernel_rfl) (fun _ _ _ h => h) (by kernel_rfl) (Ext.stable _) hCD (yieldsU_val rfl (fun u0 hu => by go_simp)) ?_
  refine anyU_takeD (i := 12) (v := .int .i64 U) 100 rfl rfl (by kernel_rfl) (by kernel_rfl) (by kernel_rfl) (fun _ _ _ h => h) (by kernel_rfl) (Ext.stable _) hCD (yieldsU_val rfl (fun u0 hu => by go_simp)) ?_
  refine anyU_takeD (i := 13) (v := .int .i64 V) 101 rfl rfl (by kernel_rfl) (by kernel_rfl) (by kernel_rfl) (fun _ _ _ h => h) (by kernel_rfl) (Ext.stable _) hCD (yieldsU_val rfl (fun u0 hu => by go_simp)) ?_
  refine anyU_takeD (i := 14) (v := .bool true) 102 rfl rfl (by kernel_rfl) (by kernel_rfl) (by kernel_rfl) (fun _ _ _ h => h) (by kernel_rfl) (Ext.stable _) hCD (yieldsU_val rfl (fun u0 hu => by go_simp)) ?_
  refine anyU_takeD (i := 15) (v := .int .i64 U) 31 rfl rfl (by kernel_rfl) (by kernel_rfl) (by kernel_rfl) (fun _ _ _ h => h) (by kernel_rfl) (Ext.stable _) hCD (yieldsU_val rfl (fun u0 hu => by go_simp)) ?_
  refine anyU_takeD (i := 16) (v := .int .i64 V) 32 rfl rfl (by kernel_rfl) (by kernel_rfl) (by kernel_rfl) (fun _ _ _ h => h) (by kernel_rfl) (Ext.stable _) hCD (yieldsU_val rfl (fun u0 hu => by go_simp)) ?_
  simp only [Act.put, List.setIfInBounds_toArray, List.set_cons_succ, List.set_cons_zero]
  refine anyU_tail 17 [] rfl rfl (by decide) (by kernel_rfl) ?_
  intro u5 hu5
  simp only [Act.put, List.filterMap_cons, List.filterMap_nil, List.getElem?_cons_succ, List.getElem?_cons_zero]
  have B8 := Lib.hid (bel_trans B7.out hu5)
  have D8 := Lib.hid (D7.out.bel hu5)
  have Y8 := Lib.hid (Y7.out.bel hu5)
  have X8 := Lib.hid (X7.out.bel hu5)
  clear hu5 E4
  go_upto_region 9 with fail
  refine wp_region_any (by kernel_rfl) ?_
  change wpAny _ _ _ _ _ _ _ (World.drew _)
  generalize hWD : World.drew _ = W4
  have B9 := Lib.hid (show Below w.heap.size w W4 by rw [← hWD]; exact B8.out.drew)
  have D9 := Lib.hid (show Dg W4 w.heap.size zs by rw [← hWD]; exact D8.out)
  have Y9 := Lib.hid (show Dg W4 (w.heap.size + 1) ys by rw [← hWD]; exact Y8.out)
  have X9 := Lib.hid (show SBlk W4 rb2 27 ys nn h2 S2 by rw [← hWD]; exact X8.out)
  clear hWD
  have hCD : ∀ u, Ext W4 u → Ext W4 u := fun u hu => hu
  refine region_U (D := Ext W4) (Ext W4) [12] (Ext.refl W4) ?_
  refine anyU_takeD (i := 0) (v := .int .i64 key) 104 rfl rfl (by kernel_rfl) (by kernel_rfl) (by kernel_rfl) (fun _ _ _ h => h) (by kernel_rfl) (Ext.stable _) hCD (yieldsU_val rfl (fun u0 hu => by go_simp)) ?_
  refine anyU_takeD (i := 1) (v := .int .i64 r) 105 rfl rfl (by kernel_rfl) (by kernel_rfl) (by kernel_rfl) (fun _ _ _ h => h) (by kernel_rfl) (Ext.stable _) hCD (yieldsU_val rfl (fun u0 hu => by go_simp)) ?_
  refine anyU_takeD (i := 2) (v := .agg (bv ys).toArray) 106 rfl rfl (by kernel_rfl) (by kernel_rfl) (by kernel_rfl) (fun _ _ _ h => h) (by kernel_rfl) (Ext.stable _) hCD (yieldsU_of_C (yields_loadD (by rfl) (.tmp 13) rfl (w.heap.size + 1) rfl ys hlys.out (fun u0 hu => Y9.out.bel hu))) ?_
  refine anyU_takeD (i := 3) (v := .int .i64 n) 107 rfl rfl (by kernel_rfl) (by kernel_rfl) (by kernel_rfl) (fun _ _ _ h => h) (by kernel_rfl) (Ext.stable _) hCD (yieldsU_val rfl (fun u0 hu => by go_simp)) ?_
  refine anyU_takeD (i := 4) (v := .int .i64 nn) 108 rfl rfl (by kernel_rfl) (by kernel_rfl) (by kernel_rfl) (fun _ _ _ h => h) (by kernel_rfl) (Ext.stable _) hCD (yieldsU_call rfl 22 _ _ rfl #[.int .i64 n] (by simp [Act.eval, Act.put]) (fun u => by go_simp) (fun u0 hu => (value_is n nn _ Hn0 Hnn).mono fun q w' hq => by obtain ⟨h1, h2⟩ := hq; subst h2; exact ⟨h1, Below.refl _ _⟩)) ?_
  refine anyU_takeD (i := 5) (v := .int .i64 U) 109 rfl rfl (by kernel_rfl) (by kernel_rfl) (by kernel_rfl) (fun _ _ _ h => h) (by kernel_rfl) (Ext.stable _) hCD (yieldsU_val rfl (fun u0 hu => by go_simp)) ?_
  refine anyU_takeD (i := 6) (v := .int .i64 V) 110 rfl rfl (by kernel_rfl) (by kernel_rfl) (by kernel_rfl) (fun _ _ _ h => h) (by kernel_rfl) (Ext.stable _) hCD (yieldsU_val rfl (fun u0 hu => by go_simp)) ?_
  simp only [Act.put, List.setIfInBounds_toArray, List.set_cons_succ, List.set_cons_zero]
  refine anyU_takeD (i := 7) (v := .tuple #[.int .i64 c1, .int .i64 0]) 111 rfl rfl (by kernel_rfl) (by kernel_rfl) (by kernel_rfl) (fun _ _ _ h => h) (by kernel_rfl) (Ext.stable _) hCD (yieldsU_call rfl 9 _ _ rfl #[.int .i64 key, .int .i64 r, .agg (bv ys).toArray, .int .i64 nn, .int .i64 U, .int .i64 V] (by simp [Act.eval, Act.put]) (fun u => by go_simp) (fun u0 hu => sask_yes key r ys nn U V _ hlys HVN HOK2 HTX2 HEK HER (Lib.hid ((hk.out.below B9.out).below hu)) pt h2 c1 HBP HCH HCC)) ?_
  refine anyU_takeD (i := 8) (v := .tuple #[.int .i64 c1, .int .i64 0]) 103 rfl rfl (by kernel_rfl) (by kernel_rfl) (by kernel_rfl) (fun _ _ _ h => h) (by kernel_rfl) (Ext.stable _) hCD (yieldsU_val rfl (fun u0 hu => by go_simp)) ?_
  refine anyU_takeD (i := 9) (v := .int .i64 c1) 112 rfl rfl (by kernel_rfl) (by kernel_rfl) (by kernel_rfl) (fun _ _ _ h => h) (by kernel_rfl) (Ext.stable _) hCD (yieldsU_val rfl (fun u0 hu => by go_simp)) ?_
  refine anyU_takeD (i := 10) (v := .int .i64 0) 113 rfl rfl (by kernel_rfl) (by kernel_rfl) (by kernel_rfl) (fun _ _ _ h => h) (by kernel_rfl) (Ext.stable _) hCD (yieldsU_val rfl (fun u0 hu => by go_simp)) ?_
  refine anyU_takeD (i := 11) (v := .int .i64 c1) 34 rfl rfl (by kernel_rfl) (by kernel_rfl) (by kernel_rfl) (fun _ _ _ h => h) (by kernel_rfl) (Ext.stable _) hCD (yieldsU_val rfl (fun u0 hu => by go_simp)) ?_
  simp only [Act.put, List.setIfInBounds_toArray, List.set_cons_succ, List.set_cons_zero]
  refine anyU_tail 12 [] rfl rfl (by decide) (by kernel_rfl) ?_
  intro u5 hu5
  simp only [Act.put, List.filterMap_cons, List.filterMap_nil, List.getElem?_cons_succ, List.getElem?_cons_zero]
  have B10 := Lib.hid (bel_trans B9.out hu5)
  have D10 := Lib.hid (D9.out.bel hu5)
  have Y10 := Lib.hid (Y9.out.bel hu5)
  have X10 := Lib.hid (X9.out.bel hu5)
  clear hu5
  go_upto_region 10 with fail
  refine wp_region_any (by kernel_rfl) ?_
  change wpAny _ _ _ _ _ _ _ (World.drew _)
  generalize hWD : World.drew _ = W5
  have B11 := Lib.hid (show Below w.heap.size w W5 by rw [← hWD]; exact B10.out.drew)
  have D11 := Lib.hid (show Dg W5 w.heap.size zs by rw [← hWD]; exact D10.out)
  have Y11 := Lib.hid (show Dg W5 (w.heap.size + 1) ys by rw [← hWD]; exact Y10.out)
  have X11 := Lib.hid (show SBlk W5 rb2 27 ys nn h2 S2 by rw [← hWD]; exact X10.out)
  clear hWD
  have hCD : ∀ u, Ext W5 u → Ext W5 u := fun u hu => hu
  refine region_U (D := Ext W5) (Ext W5) [14] (Ext.refl W5) ?_
  refine anyU_takeD (i := 0) (v := .int .i64 key) 115 rfl rfl (by kernel_rfl) (by kernel_rfl) (by kernel_rfl) (fun _ _ _ h => h) (by kernel_rfl) (Ext.stable _) hCD (yieldsU_val rfl (fun u0 hu => by go_simp)) ?_
  refine anyU_takeD (i := 1) (v := .int .i64 r) 116 rfl rfl (by kernel_rfl) (by kernel_rfl) (by kernel_rfl) (fun _ _ _ h => h) (by kernel_rfl) (Ext.stable _) hCD (yieldsU_val rfl (fun u0 hu => by go_simp)) ?_
  refine anyU_takeD (i := 2) (v := .agg (bv ys).toArray) 117 rfl rfl (by kernel_rfl) (by kernel_rfl) (by kernel_rfl) (fun _ _ _ h => h) (by kernel_rfl) (Ext.stable _) hCD (yieldsU_of_C (yields_loadD (by rfl) (.tmp 13) rfl (w.heap.size + 1) rfl ys hlys.out (fun u0 hu => Y11.out.bel hu))) ?_
  refine anyU_takeD (i := 3) (v := .int .i64 n) 118 rfl rfl (by kernel_rfl) (by kernel_rfl) (by kernel_rfl) (fun _ _ _ h => h) (by kernel_rfl) (Ext.stable _) hCD (yieldsU_val rfl (fun u0 hu => by go_simp)) ?_
  refine anyU_takeD (i := 4) (v := .int .i64 nn) 119 rfl rfl (by kernel_rfl) (by kernel_rfl) (by kernel_rfl) (fun _ _ _ h => h) (by kernel_rfl) (Ext.stable _) hCD (yieldsU_call rfl 22 _ _ rfl #[.int .i64 n] (by simp [Act.eval, Act.put]) (fun u => by go_simp) (fun u0 hu => (value_is n nn _ Hn0 Hnn).mono fun q w' hq => by obtain ⟨h1, h2⟩ := hq; subst h2; exact ⟨h1, Below.refl _ _⟩)) ?_
  refine anyU_takeD (i := 5) (v := .int .i64 U) 120 rfl rfl (by kernel_rfl) (by kernel_rfl) (by kernel_rfl) (fun _ _ _ h => h) (by kernel_rfl) (Ext.stable _) hCD (yieldsU_val rfl (fun u0 hu => by go_simp)) ?_
  refine anyU_takeD (i := 6) (v := .int .i64 V) 121 rfl rfl (by kernel_rfl) (by kernel_rfl) (by kernel_rfl) (fun _ _ _ h => h) (by kernel_rfl) (Ext.stable _) hCD (yieldsU_val rfl (fun u0 hu => by go_simp)) ?_
  simp only [Act.put, List.setIfInBounds_toArray, List.set_cons_succ, List.set_cons_zero]
  refine anyU_takeD (i := 7) (v := .int .i64 s1) 122 rfl rfl (by kernel_rfl) (by kernel_rfl) (by kernel_rfl) (fun _ _ _ h => h) (by kernel_rfl) (Ext.stable _) hCD (yieldsU_val rfl (fun u0 hu => by go_simp)) ?_
  refine anyU_takeD (i := 8) (v := .tuple #[.agg (stv ys nn h2 S2).toArray, .int .i64 0]) 123 rfl rfl (by kernel_rfl) (by kernel_rfl) (by kernel_rfl) (fun _ _ _ h => h) (by kernel_rfl) (Ext.stable _) hCD (yieldsU_call rfl 11 _ _ rfl #[.int .i64 key, .int .i64 r, .agg (bv ys).toArray, .int .i64 nn, .int .i64 U, .int .i64 V, .int .i64 s1] (by simp [Act.eval, Act.put]) (fun u => by go_simp) (fun u0 hu => stake_yes key r ys nn U V s1 _ hlys HVN HOK2 HTX2 HEK HER (Lib.hid ((hk.out.below B11.out).below hu)) pt h2 S2 HBP HCH HSU HV2)) ?_
  refine anyU_takeD (i := 9) (v := .tuple #[.agg (stv ys nn h2 S2).toArray, .int .i64 0]) 114 rfl rfl (by kernel_rfl) (by kernel_rfl) (by kernel_rfl) (fun _ _ _ h => h) (by kernel_rfl) (Ext.stable _) hCD (yieldsU_val rfl (fun u0 hu => by go_simp)) ?_
  refine anyU_takeD (i := 10) (v := .agg (stv ys nn h2 S2).toArray) 124 rfl rfl (by kernel_rfl) (by kernel_rfl) (by kernel_rfl) (fun _ _ _ h => h) (by kernel_rfl) (Ext.stable _) hCD (yieldsU_val rfl (fun u0 hu => by go_simp)) ?_
  refine anyU_takeD (i := 11) (v := .int .i64 0) 125 rfl rfl (by kernel_rfl) (by kernel_rfl) (by kernel_rfl) (fun _ _ _ h => h) (by kernel_rfl) (Ext.stable _) hCD (yieldsU_val rfl (fun u0 hu => by go_simp)) ?_
  simp only [Act.put, List.setIfInBounds_toArray, List.set_cons_succ, List.set_cons_zero]
  refine anyU_one 12 2 _ rfl rfl (by kernel_rfl) ?_
  intro u1 hu
  go_wp2_with fail
  change ∃ C' : World → Prop, _ ∧ _ ∧ _ ∧ anyU _ _ _ _ _ _ 2 _ _ _
  have X1 := Lib.hid (SBlk.new u1 27)
  have E1 := Lib.hid (Ext.trans hu (bel_alloc1 u1 (.cells #[.int .u8 0, .int .u8 0, .int .u8 0, .int .u8 0, .int .u8 0, .int .u8 0, .int .u8 0, .int .u8 0, .int .u8 0, .int .u8 0, .int .u8 0, .int .u8 0, .int .u8 0, .int .u8 0, .int .u8 0, .int .u8 0, .int .u8 0, .int .u8 0, .int .u8 0, .int .u8 0, .int .u8 0, .int .u8 0, .int .u8 0, .int .u8 0, .int .u8 0, .int .u8 0, .int .u8 0, .int .u8 0, .int .u8 0, .int .u8 0, .int .u8 0, .int .u8 0, .int .i64 0, .int .i64 0, .int .i64 0] 27)))
  have lw := hu.size
  generalize World.alloc u1 _ = u2 at X1 E1 ⊢
  obtain ⟨rb3, hrb⟩ : ∃ q, u1.heap.size = q := ⟨_, rfl⟩
  rw [hrb] at X1 lw ⊢
  clear hu hrb
  refine anchorF (fun z => Ext W5 z ∧ SBlk z rb3 27 (List.replicate 32 0) 0 0 0) (fun z hz => hz.1) ((Ext.stable W5).and (fun y z h k => h.bel k)) ⟨E1.out, X1.out⟩ ?_
  (try simp only [Act.put])
  refine anyU_one 13 1 _ rfl rfl (by kernel_rfl) ?_
  intro u3 hu
  refine list_storeApi rfl (.tmp 36) (.tmp 124) rfl rb3 rfl ys nn h2 S2 rfl (hlys.out) 27 _ _ _ _ hu.2 ?_
  intro u4 q4 k4
  change ∃ C' : World → Prop, _ ∧ _ ∧ _ ∧ anyU _ _ _ _ _ _ 1 _ _ _
  have E4 := Lib.hid (show Ext W5 u4 from Below.trans hu.1 (k4.below lw))
  have X4 := Lib.hid q4
  clear hu q4 k4 X1 E1
  refine anchorF (fun z => Ext W5 z ∧ SBlk z rb3 27 ys nn h2 S2) (fun z hz => hz.1) ((Ext.stable W5).and (fun y z h k => h.bel k)) ⟨E4.out, X4.out⟩ ?_
  (try simp only [Act.put])
  refine anyU_tail 14 [] rfl rfl (by decide) (by kernel_rfl) ?_
  intro u5 hu5
  simp only [Act.put, List.filterMap_cons, List.filterMap_nil, List.getElem?_cons_succ, List.getElem?_cons_zero]
  have B12 := Lib.hid (bel_trans B11.out hu5.1)
  have D12 := Lib.hid (D11.out.bel hu5.1)
  have Y12 := Lib.hid (Y11.out.bel hu5.1)
  have X12 := Lib.hid (X11.out.bel hu5.1)
  have R3 := Lib.hid hu5.2
  clear hu5 E4 X4
  go_wp2_with (first
    | (refine list_loadApi (by rfl) (.tmp 36) rfl rb3 0 rfl ys nn h2 S2 hlys.out R3.out.1.range ?_)
    | (refine list_loadApi (by rfl) (.tmp 26) rfl rb2 0 rfl ys nn h2 S2 hlys.out X12.out.1.range ?_))
  go_ret
  exact ⟨rfl, B12.out⟩
theorem stampsUnseen_walk (a b c : Int) (zs ys : List Int) (m n u v : Int) (w : World) (hlzs : Hid (zs.length = 32)) (hrzs : Hid (∀ z ∈ zs, 0 ≤ z ∧ z ≤ 255)) (hlys : Hid (ys.length = 32)) (hrys : Hid (∀ z ∈ ys, 0 ≤ z ∧ z ≤ 255)) (hk : Hid (KeysAt w))
    (HA0 : Hid (0 ≤ a ∧ a ≤ 4294967295)) (HB0 : Hid (0 ≤ b ∧ b ≤ 4294967295)) (HC0 : Hid (0 ≤ c ∧ c ≤ 4294967295)) (Hm0 : Hid ((Lit.int .i64 m).wf = true)) (Hn0 : Hid ((Lit.int .i64 n).wf = true)) :
    Calls Tryz.prog 6 #[.int .u32 a, .int .u32 b, .int .u32 c, .agg (bv zs).toArray, .agg (bv ys).toArray, .int .i64 m, .int .i64 n, .int .i64 u, .int .i64 v] w fun q w' => q = .returned (.bool true) ∧ Below w.heap.size w w' := by
  have HVM := valZ_ok m
  have HVN := valZ_ok n
  have hok2 := st_ok hlys.out hrys.out HVN
  obtain ⟨key, r, pt1, h1, c1, y1, s1, S1, z1, hex1⟩ := exR (1 + a % 1073741788) (1 + b % 1073741788) u v (encL [.text zs, .int (valZ m)])
  obtain ⟨key2, r2, pt2, h2, c2, y2, s2, S2, z2, hex2⟩ := exR (1 + a % 1073741788) (1 + c % 1073741788) v u (encL [.text ys, .int (valZ n)])
  obtain rfl : key2 = key := hex2.hkey.eq.symm.trans hex1.hkey.eq
  obtain ⟨_, ⟨e0, e1⟩, ⟨q0, q1⟩, hch⟩ := hex2.ver.parts
  have ht : powZ 4 s1 = mulZ r (powZ key2 c1) := by rw [hex1.sd.l, hex1.sd.r]
  have hpt := tr_point hex1.ek hex1.er ht (h := h2) (v := modQ (c1 - h2)) (u := modQ (S2 - s1)) (S := S2) (by unfold modQ; omega) (by unfold modQ; omega)
  rw [hpt] at hch
  obtain ⟨pt, hp⟩ := isBp key2 r (modQ (S2 - s1)) (modQ (c1 - h2))
  rw [hp.eq] at hch
  have cc : 0 ≤ c1 ∧ c1 < 1073741789 := by rw [← hex1.hc]; exact modQ_rng _
  exact stampsUnseen_yes a b c zs ys m n u v _ _ _ _ _ key2 r pt1 h1 c1 y1 s1 S1 z1 r2 pt2 h2 c2 y2 s2 S2 z2 _ _ pt w hlzs hrzs hlys hrys hk HA0 HB0 HC0 Hm0 Hn0 (Lib.hid rfl) (Lib.hid rfl) (Lib.hid rfl) (Lib.hid rfl) (Lib.hid rfl) (Lib.hid HVM) (Lib.hid HVN) (Lib.hid (sec_ok a)) (Lib.hid (sec_ok b)) (Lib.hid (sec_ok c)) (Lib.hid hex1.hkey) (Lib.hid hex1.ek) (Lib.hid hex1.er) (Lib.hid hex1) (Lib.hid hex2) (Lib.hid hok2) (Lib.hid (st_tx hlys.out hok2)) (Lib.hid hex1.sd) (Lib.hid hex2.ver) (Lib.hid rfl) (Lib.hid rfl) (Lib.hid hp) (Lib.hid hch) (Lib.hid (by unfold modQ; omega)) (Lib.hid (by unfold modQ; omega))

namespace stampsUnseen
theorem readable : ∀ t ∈ Tryz.f6.params.toList, Tryz.prog.readableRec t = true ∧ t < Tryz.prog.types.size := by
  rw [Tryz.params6]
  intro t ht
  simp only [List.mem_cons, List.not_mem_nil, or_false] at ht
  rcases ht with rfl | rfl | rfl | rfl | rfl | rfl | rfl | rfl | rfl
  all_goals exact ⟨by kernel_rfl, by decide +kernel⟩

set_option maxRecDepth 100000 in
theorem lifted (os : Os) (started : os.Started) (H : Type) (enc : TypeId × Value → H) :
    ReturnsInHanded {} Tryz.checked os 6 .any (fun w args => (Rows.stampsUnseenSpec.pre enc Tryz.prog Tryz.f6 [] false w args ∧ laidMetH Tryz.prog laidK w) ∧ sizedMet enc Tryz.prog Tryz.f6 (OpenSpec.ofChange Rows.stampsUnseenSpec) false w args)
      (Rows.stampsUnseenSpec.post enc Tryz.prog Tryz.f6 false true false false) := by
  refine returnsInHanded_of_change_and (C := Tryz.checked) (X := fun w _ => laidMetH Tryz.prog laidK w) (fun _ _ _ hh h => h.of_heap hh) own_knob started (by kernel_rfl) Tryz.func6
    (ChangeSpec.witness_shaped (enc := enc) (C := Tryz.checked) (os := os) (X := fun w _ => laidMetH Tryz.prog laidK w) false (World.doorLaid Tryz.prog 400 os) #[.int .u32 0, .int .u32 0, .int .u32 0, .agg (bv (List.replicate 32 0)).toArray, .agg (bv (List.replicate 32 0)).toArray, .int .i64 0, .int .i64 0, .int .i64 0, .int .i64 0] 8 rfl (World.shaped_of_RefB (by kernel_rfl) (by kernel_rfl)) (by kernel_rfl) (by kernel_rfl) (by kernel_rfl) (door_met os _)) ?_
  intro W base args ds gs before hval0 hW _ _ hL _
  have hval : ∀ (j : Nat) t v, Tryz.f6.params[j]? = some t → args[j]? = some v → Value.okWide Tryz.prog W .any base t v := hval0
  have hW' := hW
  obtain ⟨p, q, hA0, hV, rfl, hfz, hnd⟩ := hW
  have hA : DataW.TrodAll enc Tryz.prog W 0 (fun _ => true) true Tryz.f6.params.toList args.toList ds p := hA0
  rw [Tryz.params6] at hA hval
  obtain ⟨v0, vs0, d0, ds0, p0, q0, hargs, rfl, rfl, h0, r0⟩ := trodAll_cons hA
  obtain ⟨v1, vs1, d1, ds1, p1, q1, rfl, rfl, rfl, h1, r1⟩ := trodAll_cons r0
  obtain ⟨v2, vs2, d2, ds2, p2, q2, rfl, rfl, rfl, h2, r2⟩ := trodAll_cons r1
  obtain ⟨v3, vs3, d3, ds3, p3, q3, rfl, rfl, rfl, h3, r3⟩ := trodAll_cons r2
  obtain ⟨v4, vs4, d4, ds4, p4, q4, rfl, rfl, rfl, h4, r4⟩ := trodAll_cons r3
  obtain ⟨v5, vs5, d5, ds5, p5, q5, rfl, rfl, rfl, h5, r5⟩ := trodAll_cons r4
  obtain ⟨v6, vs6, d6, ds6, p6, q6, rfl, rfl, rfl, h6, r6⟩ := trodAll_cons r5
  obtain ⟨v7, vs7, d7, ds7, p7, q7, rfl, rfl, rfl, h7, r7⟩ := trodAll_cons r6
  obtain ⟨v8, vs8, d8, ds8, p8, q8, rfl, rfl, rfl, h8, r8⟩ := trodAll_cons r7
  obtain ⟨rfl, rfl, rfl⟩ := trodAll_nil r8
  obtain rfl : args = #[v0, v1, v2, v3, v4, v5, v6, v7, v8] := by cases args; simp_all
  obtain ⟨rfl, rfl⟩ := trodVars_none hV
  obtain ⟨a0, rfl, w0, x0⟩ := open_u32 Tryz.underlying42 (hval 0 42 v0 rfl rfl) h0
  obtain ⟨a1, rfl, w1, x1⟩ := open_u32 Tryz.underlying42 (hval 1 42 v1 rfl rfl) h1
  obtain ⟨a2, rfl, w2, x2⟩ := open_u32 Tryz.underlying42 (hval 2 42 v2 rfl rfl) h2
  obtain ⟨z3, rfl, w3, x3⟩ := open_dig Tryz.underlying23 Tryz.underlying5 (by kernel_rfl) (by kernel_rfl) (hval 3 23 v3 rfl rfl) h3
  obtain ⟨z4, rfl, w4, x4⟩ := open_dig Tryz.underlying23 Tryz.underlying5 (by kernel_rfl) (by kernel_rfl) (hval 4 23 v4 rfl rfl) h4
  obtain ⟨a5, rfl, rfl, rfl, w5⟩ := open_int Tryz.underlying3 (hval 5 3 v5 rfl rfl) h5
  obtain ⟨a6, rfl, rfl, rfl, w6⟩ := open_int Tryz.underlying3 (hval 6 3 v6 rfl rfl) h6
  obtain ⟨a7, rfl, rfl, rfl, w7⟩ := open_int Tryz.underlying3 (hval 7 3 v7 rfl rfl) h7
  obtain ⟨a8, rfl, rfl, rfl, w8⟩ := open_int Tryz.underlying3 (hval 8 3 v8 rfl rfl) h8
  have hK := of_laid hL
  clear hA0 hval0
  refine (stampsUnseen_walk a0 a1 a2 z3 z4 a5 a6 a7 a8 W (Lib.hid w3) (Lib.hid x3) (Lib.hid w4) (Lib.hid x4) (Lib.hid hK) (Lib.hid ⟨w0, x0⟩) (Lib.hid ⟨w1, x1⟩) (Lib.hid ⟨w2, x2⟩) (Lib.hid w5) (Lib.hid w6)).mono fun e W' ⟨he, hb⟩ => ?_
  subst he
  exact ⟨_, rfl, law_post laid_out readable rfl rfl Tryz.underlying4 hW' rfl rfl rfl hb⟩

theorem over : Rows.stampsUnseenRow.holds Tryz.pinned (OpenSpec.ofChange Rows.stampsUnseenSpec) :=
  OpenClaim.holds_of_wide 6 Tryz.f6 rfl rfl rfl rfl rfl rfl rfl ⟨rfl, rfl, rfl, rfl, rfl⟩ rfl rfl rfl rfl rfl (by kernel_rfl) Tryz.func6 (by kernel_rfl)
    (of_decide_eq_true (by kernel_rfl)) (by unfold Func.isWrapper; first | (rw [if_pos (by decide +kernel)]; kernel_rfl) | (rw [if_neg (by decide +kernel)]; exact ⟨rfl, rfl⟩))
    (fun os started H enc _ => lifted os started H enc)

/-- the statement: the tied card -/
theorem proved : Rows.StampsUnseenCardSaid :=
  Claim7.holds_tied_plain_at .later [] [.data] true (true, "08aa77cb6b5e7032e714fb6e8234f1d1e81e8e126b602c27ba0bf5d0ec3bd074") true
    over (fun _ h => by cases h) (by kernel_rfl) (fun _ h => by cases h) stampsUnseen_row_tie rfl ⟨rfl, rfl⟩ (by kernel_rfl) rfl
    (fun f fn hf hfn => by
      obtain rfl : f = 6 := Option.some.inj ((show Tryz.prog.funcNamed "franking/frankinglaw37.StampsUnseen" = some 6 by kernel_rfl).symm.trans hf) |>.symm
      obtain rfl : fn = Tryz.f6 := (Option.some.inj (Tryz.func6.symm.trans hfn)).symm
      exact ⟨by kernel_rfl, fun j t ht => by
        rw [Tryz.params6] at ht
        have hm : t ∈ [42, 42, 42, 23, 23, 3, 3, 3, 3] := by simpa using Array.mem_of_getElem? ht
        have hall : ([42, 42, 42, 23, 23, 3, 3, 3, 3].all fun u => !Tryz.prog.wantsStandIn u) = true := by kernel_rfl
        exact (show Tryz.prog.wantsStandIn t = false by simpa using List.all_eq_true.1 hall t hm)⟩)
    (by kernel_rfl)
end stampsUnseen
end Go.Proofs.YtjdkdhpippapmaaGreatDoor
