/- A letter that is stripped of one secret is the one that is sealed for the other keys with the same numbers. No condition. -/
import Derived.Test.YtbmeljkdemdloaaElgPart0
import Derived.BigRegion
import Derived.BigQuiet
import Derived.Deep.DeepCutAuto
namespace Go.Proofs.Ytbmeljkdemdloaa
open Go.ChangeShapes Go.WideShapes Go.ChangeAt Go.RowKit Go.Shelf
set_option linter.unusedVariables false
set_option linter.unusedSimpArgs false

theorem bel_alS {w W : World} (h : Below w.heap.size w W) (o : Obj) : Below w.heap.size w (W.alloc o) := h.alloc h.size o
theorem bel_first {w2 w3 : World} {o : Obj} (h : (w2.alloc o).drew.grownBy w3 (Value.ownBlock (.slice (some ⟨w2.heap.size, 0, none⟩) 0 0))) : Below w2.heap.size w2 w3 :=
  ((bel_alloc1 w2 o).drew).trans ⟨h.os, h.tape, h.output, h.size, fun i hi' => h.block i (by simp; omega) (by simp [Value.ownBlock]; omega)⟩
theorem bel_second {w2 w3 w4 : World} {v : Value} {n : Nat} {xs : List Value} {t : TypeId} (k : Below w2.heap.size w2 w3) (ho : w3.ownsRow w2.heap.size t 1 v n xs) (h : w3.grownBy w4 v.ownBlock) : Below w2.heap.size w2 w4 :=
  k.trans ⟨h.os, h.tape, h.output, h.size, fun i hi' => h.block i (by have := k.size; omega) (by intro e; have := (World.ownsRow.lt ho) i e.symm; omega)⟩


theorem leafA {W u1 : World} {z0 z1 z2 z3 z4 z5 v0 v1 v2 v3 v4 v5 : Value} {t : TypeId} (h : Below (W.alloc (.cells #[z0, z1, z2, z3, z4, z5] t)).drew.heap.size (W.alloc (.cells #[z0, z1, z2, z3, z4, z5] t)).drew u1) :
    Hid (Blk ((((((u1.setCell ⟨W.heap.size, 0, none⟩ v0).setCell ⟨W.heap.size, 1, none⟩ v1).setCell ⟨W.heap.size, 2, none⟩ v2).setCell ⟨W.heap.size, 3, none⟩ v3).setCell ⟨W.heap.size, 4, none⟩ v4).setCell ⟨W.heap.size, 5, none⟩ v5) W.heap.size #[v0, v1, v2, v3, v4, v5] t)
    ∧ Hid (Below W.heap.size W ((((((u1.setCell ⟨W.heap.size, 0, none⟩ v0).setCell ⟨W.heap.size, 1, none⟩ v1).setCell ⟨W.heap.size, 2, none⟩ v2).setCell ⟨W.heap.size, 3, none⟩ v3).setCell ⟨W.heap.size, 4, none⟩ v4).setCell ⟨W.heap.size, 5, none⟩ v5)) := by
  have b0 : Blk (W.alloc (.cells #[z0, z1, z2, z3, z4, z5] t)).drew W.heap.size #[z0, z1, z2, z3, z4, z5] t := Blk.new W _ t
  have b1 := (((((((b0.below h b0.lt).set 0 v0).set 1 v1).set 2 v2).set 3 v3).set 4 v4).set 5 v5)
  have k : Below W.heap.size W u1 := (bel_alloc1 W (.cells #[z0, z1, z2, z3, z4, z5] t)).drew.trans (h.mono (by simp))
  refine ⟨Lib.hid ?_, Lib.hid ?_⟩
  · simpa using b1
  · exact (((((k.setCell (Nat.le_refl _) _).setCell (Nat.le_refl _) _).setCell (Nat.le_refl _) _).setCell (Nat.le_refl _) _).setCell (Nat.le_refl _) _).setCell (Nat.le_refl _) _
theorem leafB {W u1 : World} {c : Array Value} {t : TypeId} (h : Below W.drew.heap.size W.drew u1) :
    Hid (Blk (u1.alloc (.cells c t)) u1.heap.size c t) ∧ Hid (Below W.heap.size W (u1.alloc (.cells c t))) :=
  ⟨Lib.hid (Blk.new u1 c t), Lib.hid (((Below.refl W.heap.size W).drew.trans h).alloc (h.size) _)⟩

set_option maxRecDepth 100000 in
set_option maxHeartbeats 40000000 in
theorem elgamalPart_walk (p : Option Addr) (n cap : Nat) (zs : List Int) (n0 n1 n2 r0 r1 r2 at' : Int) (w : World) (hz : Hid (IntsV w p n cap zs)) (hcap : n ≤ cap) (hmax : cap ≤ maxLen) (wat : (Lit.int .u8 at').wf = true) :
    Calls Try.prog 6 #[.slice p n cap, .agg #[.int .i64 n0, .int .i64 n1, .int .i64 n2], .agg #[.int .i64 r0, .int .i64 r1, .int .i64 r2], .int .u8 at'] w fun e w' => e = .returned (.bool true) ∧ Below w.heap.size w w' := by
  obtain ⟨t0, t1⟩ : 0 ≤ at' ∧ at' ≤ 255 := bounds_u8 wat
  clear wat
  have hmax' : cap ≤ 9223372036854775807 := by unfold maxLen at hmax; omega
  obtain ⟨i0, hi, hz0, hz1, hz2⟩ := info_parts info3
  have H1 := Lib.hid hz.out.1
  go_enter Try.func6, Try.ntmps6
  go_wp2_with fail
  refine (sane10_any _).mono ?_; rintro e w1 ⟨rfl, hb1⟩
  obtain ⟨V, hV⟩ : ∃ V, (w.alloc (.cells #[.int .i64 n0, .int .i64 n1, .int .i64 n2] 30)).alloc (.cells #[.int .i64 r0, .int .i64 r1, .int .i64 r2] 29) = V := ⟨_, rfl⟩
  have kv : Below w.heap.size w V := by rw [← hV]; exact ((Below.refl w.heap.size w).alloc (Nat.le_refl _) _).alloc (by simp) _
  have v : Blks V [(w.heap.size + 1, #[.int .i64 r0, .int .i64 r1, .int .i64 r2], 29), (w.heap.size, #[.int .i64 n0, .int .i64 n1, .int .i64 n2], 30)] := by
    rw [← hV]; have h := ((Blks.nil w).box #[.int .i64 n0, .int .i64 n1, .int .i64 n2] 30).box #[.int .i64 r0, .int .i64 r1, .int .i64 r2] 29
    simp only [World.size_alloc] at h; exact h
  rw [hV] at hb1
  have h1 := Lib.hid (kv.trans (hb1.mono kv.size))
  have K1 := Lib.hid (v.below hb1)
  clear v kv hb1 hV
  obtain ⟨f0, f1, f2⟩ := blk3_facts K1.out.2.1
  have l1 := K1.out.2.1.lt
  dsimp only at l1
  cases hr : rightB zs with
  | false =>
    have HR := Lib.hid hr; clear hr
    go_wp2_with fail
    refine (right_any p n cap zs _ (Lib.hid (hz.out.below h1.out))).mono ?_; rintro e w' ⟨rfl, rfl⟩; rw [HR.out]
    go_wp2_with fail
    go_ret
    exact ⟨rfl, h1.out⟩
  | true =>
  have HR := Lib.hid hr; clear hr
  have hr2 : zs.all secB = true ∧ zs.length ≤ 5 := by have h := HR.out; unfold rightB at h; simpa using h
  have HS := Lib.hid hr2.1
  have hn5 : n ≤ 5 := by have := H1.out; omega
  clear hr2
  cases hw : words3 n0 n1 n2 with
  | false =>
    have HW := Lib.hid hw; clear hw
    go_wp2_with fail
    refine (right_any p n cap zs _ (Lib.hid (hz.out.below h1.out))).mono ?_; rintro e w' ⟨rfl, rfl⟩; rw [HR.out]
    go_wp2_with fail
    refine (words_any _ _ _ _).mono ?_; rintro e w2 ⟨rfl, hb⟩; rw [HW.out]
    have h2 := Lib.hid (bel_trans h1.out hb); clear hb
    go_wp2_with fail
    go_ret
    exact ⟨rfl, h2.out⟩
  | true =>
  have HW := Lib.hid hw; clear hw
  go_wp2_with fail
  refine (right_any p n cap zs _ (Lib.hid (hz.out.below h1.out))).mono ?_; rintro e w' ⟨rfl, rfl⟩; rw [HR.out]
  go_wp2_with fail
  refine (words_any _ _ _ _).mono ?_; rintro e w2 ⟨rfl, hb⟩; rw [HW.out]
  have h2 := Lib.hid (bel_trans h1.out hb)
  have K2 := Lib.hid (K1.out.below hb); clear hb f0 f1 f2 l1
  by_cases hn : n = 0
  · have hnB : ((n : Int) == 0) = true := by simp [hn]
    clear hn
    go_wp2_with fail
    go_ret
    exact ⟨rfl, h2.out⟩
  have hnB : ((n : Int) == 0) = false := by simp; omega
  have hn1 : 1 ≤ n := by omega
  clear hn
  obtain ⟨k, hk, hkn⟩ : ∃ k : Nat, at' % (n : Int) = k ∧ k < n := by
    have h1 := Int.emod_nonneg at' (b := (n : Int)) (by omega)
    have h2 := Int.emod_lt_of_pos at' (b := (n : Int)) (by omega)
    exact ⟨(at' % (n : Int)).toNat, by omega, by omega⟩
  obtain ⟨b, off, hp, hb, hcell⟩ := (hz.out.below h2.out).at hkn
  obtain ⟨-, -, hzr⟩ := hz.out.below h2.out
  subst hp
  have hAt : IntsAt w2 b off zs := by
    rcases hzr with h | ⟨b', off', he, hb', hc⟩
    · omega
    · cases he; exact hc
  clear hzr
  have HA := Lib.hid hAt; clear hAt
  have hks := all_at HS.out (k := k) (by rw [← H1.out]; exact hkn)
  have hsp : zs = zs.take k ++ zs.getD k 0 :: zs.drop (k + 1) := by
    have hlt : k < zs.length := by rw [← H1.out]; exact hkn
    rw [List.getD_eq_getElem?_getD, List.getElem?_eq_getElem hlt]
    simp
  obtain ⟨s, hs⟩ : ∃ s, zs.getD k 0 = s := ⟨_, rfl⟩
  rw [hs] at hcell hks hsp
  obtain ⟨A, hA⟩ : ∃ A, zs.take k = A := ⟨_, rfl⟩
  obtain ⟨B, hB⟩ : ∃ A, zs.drop (k + 1) = A := ⟨_, rfl⟩
  have hAl : A.length = k := by rw [← hA, List.length_take]; have := H1.out; omega
  have hBl : B.length = n - (k + 1) := by rw [← hB, List.length_drop]; have := H1.out; omega
  rw [hA, hB] at hsp
  have hall : (A ++ B).all secB = true := by
    have h := HS.out; rw [hsp, List.all_append, List.all_cons] at h
    simp only [Bool.and_eq_true] at h
    rw [List.all_append, h.1, h.2.2]; rfl
  obtain ⟨hAs, hBs⟩ : A.all secB = true ∧ B.all secB = true := by
    rw [List.all_append, Bool.and_eq_true] at hall; exact hall
  have hj := join_split (pubs_el hAs) (pubs_el hBs) (pub_el hks)
  have hJ1 : joinZ (zs.map pubZ) = mulZ (joinZ ((A ++ B).map pubZ)) (pubZ s) := by rw [hsp, List.map_append, List.map_append, List.map_cons]; exact hj.1
  have hJ2 : elB (joinZ ((A ++ B).map pubZ)) = true := by rw [List.map_append]; exact hj.2
  have HNA : Hid (∀ X : World, Below w2.heap.size w2 X → ∀ j u, (ints A)[j]? = some u → X.cell? ((⟨b, off, none⟩ : Addr).add j) = some u) := Lib.hid (by
    intro X hX j u hu
    rw [List.getElem?_map] at hu
    cases hg : A[j]? with
    | none => rw [hg] at hu; cases hu
    | some z =>
      rw [hg] at hu; cases hu
      have hjk : j < k := by have := (List.getElem?_eq_some_iff.1 hg).1; omega
      rw [add_none, hX.cell (p := ⟨b, off + j, none⟩) hb, HA.out j (by have := H1.out; omega)]
      rw [← hA, List.getElem?_take, if_pos hjk] at hg
      rw [List.getD_eq_getElem?_getD, hg]; rfl)
  have HNB : Hid (∀ X : World, Below w2.heap.size w2 X → ∀ j u, (ints B)[j]? = some u → X.cell? ((⟨b, off + (k + 1), none⟩ : Addr).add j) = some u) := Lib.hid (by
    intro X hX j u hu
    rw [List.getElem?_map] at hu
    cases hg : B[j]? with
    | none => rw [hg] at hu; cases hu
    | some z =>
      rw [hg] at hu; cases hu
      have hjk : j < n - (k + 1) := by have := (List.getElem?_eq_some_iff.1 hg).1; omega
      rw [add_none, hX.cell (p := ⟨b, off + (k + 1) + j, none⟩) hb, Nat.add_assoc off, HA.out (k + 1 + j) (by have := H1.out; omega)]
      rw [← hB, List.getElem?_drop] at hg
      rw [List.getD_eq_getElem?_getD, hg]; rfl)
  have HJ1 := Lib.hid hJ1; have HJ2 := Lib.hid hJ2; have HALL := Lib.hid hall; have HKS := Lib.hid hks; have HK := Lib.hid hk; have HAL := Lib.hid hAl; have HBL := Lib.hid hBl
  have HC := Lib.hid hcell
  clear hJ1 hJ2 hall hks hk hAl hBl hcell hj hsp hAs hBs hA hB hs
  have e1 : IntKind.i64.wrap ((k : Int) + 1) = ((k + 1 : Nat) : Int) := (IntWalk.i64_in _ (by omega)).trans (by omega)
  have hk5 : (k : Int) ≤ 4 := by omega
  have HO0 : Hid (∀ X : World, X.heap = (w2.alloc (.cells #[] 3)).heap → X.ownsRow w2.heap.size 3 1 (.slice (some ⟨w2.heap.size, 0, none⟩) 0 0) 0 []) := Lib.hid (by
    intro X hX
    have h := World.ownsRow_made w2 (base := w2.heap.size) (e := 3) (size := 1) #[] 0 (Nat.le_refl _) (by unfold maxLen; omega) rfl
    unfold World.ownsRow at h ⊢
    rw [hX]; exact h)
  have HUA : Hid (∀ u ∈ ints A, u.oneCell' = true) := Lib.hid (by intro u hu; obtain ⟨z, _, rfl⟩ := List.mem_map.1 hu; rfl)
  have HUB : Hid (∀ u ∈ ints B, u.oneCell' = true) := Lib.hid (by intro u hu; obtain ⟨z, _, rfl⟩ := List.mem_map.1 hu; rfl)
  have HLA : Hid ((ints A).length = k * 1) := Lib.hid (by rw [List.length_map, HAL.out]; omega)
  have HLB : Hid ((ints B).length = (n - (k + 1)) * 1) := Lib.hid (by rw [List.length_map, HBL.out]; omega)
  have hlen : n - (k + 1) ≤ 5 := by omega
  have hk5' : k ≤ 4 := by omega
  have hkk1 : (k : Int) ≤ (k : Int) + 1 := by omega
  have hkc : k ≤ cap := by omega
  have hki : (0 : Int) ≤ (k : Int) + 1 := by omega
  have hki2 : (k : Int) + 1 ≤ (n : Int) := by omega
  have hk1n : k + 1 ≤ n := by omega
  have hk1c : k + 1 ≤ cap := by omega
  go_wp2_with fail
  rw [HK.out]
  clear t0 t1
  have HNB0 : Hid (cap = k + 1 → ∀ X : World, ∀ j u, (ints B)[j]? = some u → X.cell? ((⟨b, off, none⟩ : Addr).add j) = some u) := Lib.hid (by
    intro h X j u hu
    have : B = [] := List.eq_nil_of_length_eq_zero (by have := HBL.out; omega)
    rw [this] at hu; simp at hu)
  have hkz : cap - (k + 1) = cap - (k + 1) := rfl
  clear hkz
  obtain ⟨x0, x1, x2, x3, x4, x5, HX⟩ : ∃ x0 x1 x2 x3 x4 x5 : Int, Hid (sealR (mulZ (joinZ ((A ++ B).map pubZ)) (pubZ s)) n0 n1 n2 r0 r1 r2 = ((x0, x1), (x2, x3), (x4, x5))) := ⟨_, _, _, _, _, _, Lib.hid rfl⟩
  obtain ⟨y0, y1, y2, y3, y4, y5, HY⟩ : ∃ x0 x1 x2 x3 x4 x5 : Int, Hid (sealR (joinZ ((A ++ B).map pubZ)) n0 n1 n2 r0 r1 r2 = ((x0, x1), (x2, x3), (x4, x5))) := ⟨_, _, _, _, _, _, Lib.hid rfl⟩
  have hss := strip_seal (r0 := r0) (r1 := r1) (r2 := r2) HJ2.out HKS.out HW.out
  rw [HX.out, HY.out] at hss
  have HSS1 := Lib.hid hss.1; have HSS2 := Lib.hid hss.2
  have HXE : Hid (sealE (mulZ (joinZ ((A ++ B).map pubZ)) (pubZ s)) n0 n1 n2 = 0) := Lib.hid (sealE_ok (mulZ_el HJ2.out (pub_el HKS.out)) HW.out)
  have HYE : Hid (sealE (joinZ ((A ++ B).map pubZ)) n0 n1 n2 = 0) := Lib.hid (sealE_ok HJ2.out HW.out)
  clear hss
  obtain ⟨J, HJ⟩ : ∃ J, Hid (joinZ (zs.map pubZ) = J) := ⟨_, Lib.hid rfl⟩
  obtain ⟨J', HJ'⟩ : ∃ J, Hid (joinZ ((A ++ B).map pubZ) = J) := ⟨_, Lib.hid rfl⟩
  rw [HJ.out, HJ'.out] at HJ1
  rw [HJ'.out] at HJ2 HX HY HXE HYE
  rw [← HJ1.out] at HX HXE
  rcases Nat.eq_or_lt_of_le (show k + 1 ≤ cap by omega) with hck | hck
  case' inl =>
    subst hck
    go_wp2_with fail
    go_region_law (first
      | (refine step_append_own rfl (.tmp 43) (.tmp 46) 22 rfl w2.heap.size 3 i0 (.int .i64 0) 1 8 Try.underlying22 hi hz0 hz1 hz2 rfl (by decide) (.slice (some ⟨w2.heap.size, 0, none⟩) 0 0) 0 [] (by simp [Act.eval, Act.put]) (HO0.out _ rfl) ⟨b, off, none⟩ k (k + 1) (ints A) (by simp [Act.eval, Act.put]) HLA.out (HNA.out _ (bel_alloc1 w2 _).drew) HUA.out (by unfold maxLen; omega) (by omega) (by simp) ?_; intro v1 w3 ho1 hg1; have HB3 := Lib.hid (bel_first hg1); clear hg1)
      | (refine step_append_own rfl (.tmp 47) (.tmp 51) 22 rfl w2.heap.size 3 i0 (.int .i64 0) 1 8 Try.underlying22 hi hz0 hz1 hz2 rfl (by decide) v1 (0 + k) ([] ++ ints A) (by simp [Act.eval, Act.put]) ho1 ⟨b, off, none⟩ (n - (k + 1)) (0) (ints B) (by simp [Act.eval, Act.put]; omega) HLB.out (HNB0.out (by trivial) _) HUB.out (by unfold maxLen; omega) (by omega) HB3.out.size ?_; intro v2 w4 ho2 hg2; have HB4 := Lib.hid (bel_second HB3.out ho1 hg2); clear hg2))
  case' inr =>
    have hne : ¬ cap = k + 1 := by omega
    go_wp2_with fail
    go_region_law (first
      | (refine step_append_own rfl (.tmp 43) (.tmp 46) 22 rfl w2.heap.size 3 i0 (.int .i64 0) 1 8 Try.underlying22 hi hz0 hz1 hz2 rfl (by decide) (.slice (some ⟨w2.heap.size, 0, none⟩) 0 0) 0 [] (by simp [Act.eval, Act.put]) (HO0.out _ rfl) ⟨b, off, none⟩ k (cap) (ints A) (by simp [Act.eval, Act.put]) HLA.out (HNA.out _ (bel_alloc1 w2 _).drew) HUA.out (by unfold maxLen; omega) (by omega) (by simp) ?_; intro v1 w3 ho1 hg1; have HB3 := Lib.hid (bel_first hg1); clear hg1)
      | (refine step_append_own rfl (.tmp 47) (.tmp 51) 22 rfl w2.heap.size 3 i0 (.int .i64 0) 1 8 Try.underlying22 hi hz0 hz1 hz2 rfl (by decide) v1 (0 + k) ([] ++ ints A) (by simp [Act.eval, Act.put]) ho1 ⟨b, off + (k + 1), none⟩ (n - (k + 1)) (cap - (k + 1)) (ints B) (by simp [Act.eval, Act.put]) HLB.out (HNB.out _ HB3.out) HUB.out (by unfold maxLen; omega) (by omega) HB3.out.size ?_; intro v2 w4 ho2 hg2; have HB4 := Lib.hid (bel_second HB3.out ho1 hg2); clear hg2))
    clear hne
  all_goals
    have HO2 : Hid (Own w4 w2.heap.size v2 (A ++ B)) := Lib.hid (by
      have hl : (A ++ B).length = 0 + k + (n - (k + 1)) := by rw [List.length_append, HAL.out, HBL.out]; omega
      unfold Own; rw [hl, ints, List.map_append]; exact ho2)
    obtain ⟨q, cq, rfl, hV⟩ := HO2.out.intsV
    obtain ⟨M, hM⟩ : ∃ M, (A ++ B).length = M := ⟨_, rfl⟩
    have hM5 : M ≤ 5 := by rw [← hM, List.length_append, HAL.out, HBL.out]; omega
    rw [hM] at hV ⊢
    have HV := Lib.hid hV
    clear hV hM ho1 ho2 HO2 HB3 e1 hki hki2 hkk1 hkc hk1n hk1c
    simp only [Act.put]
    go_wp2_with fail
    refine (keys_any (some ⟨b, off, none⟩) n _ zs _ (Lib.hid (hz.out.below (h2.out.trans (HB4.out.mono h2.out.size)))) HS hn5).mono ?_
    rintro e w5 ⟨v5, rfl, hb5⟩
    rw [HJ.out]
    have HB5 := Lib.hid (HB4.out.trans (hb5.mono HB4.out.size))
    have HV5 := Lib.hid (HV.out.below hb5); clear hb5
    go_wp2_with fail
    refine (keys_any q M cq (A ++ B) _ HV5 HALL hM5).mono ?_
    rintro e w6 ⟨v6, rfl, hb6⟩
    rw [HJ'.out]
    have HB6 := Lib.hid (HB5.out.trans (hb6.mono HB5.out.size)); clear hb6
    have K6 := Lib.hid (K2.out.below HB6.out)
    have h6 := Lib.hid (h2.out.trans (HB6.out.mono h2.out.size))
    obtain ⟨f0, f1, f2⟩ := blk3_facts K6.out.1
    obtain ⟨g0, g1, g2⟩ := blk3_facts K6.out.2.1
    have l1 := K6.out.1.lt; have l2 := K6.out.2.1.lt
    dsimp only at l1 l2
    go_wp2_with fail
    refine (seal_c J n0 n1 n2 r0 r1 r2 x0 x1 x2 x3 x4 x5 0 _ HX.out HXE.out).mono ?_; rintro e w7 ⟨rfl, hb7⟩
    have K7 := Lib.hid (K6.out.below hb7)
    have h7 := Lib.hid (bel_trans h6.out hb7)
    have HB7 := Lib.hid (HB6.out.trans (hb7.mono HB6.out.size)); clear hb7 f0 f1 f2 g0 g1 g2 l1 l2
    go_wp2_with fail
    have KS := Lib.hid (K7.out.box #[.int .i64 x0, .int .i64 x1, .int .i64 x2, .int .i64 x3, .int .i64 x4, .int .i64 x5] 34)
    obtain ⟨W, hW⟩ : ∃ W, w7.alloc (.cells #[.int .i64 x0, .int .i64 x1, .int .i64 x2, .int .i64 x3, .int .i64 x4, .int .i64 x5] 34) = W := ⟨_, rfl⟩
    have HBW := Lib.hid (show Below w2.heap.size w2 W by rw [← hW]; exact HB7.out.alloc HB7.out.size _)
    have h8 := Lib.hid (show Below w.heap.size w W by rw [← hW]; exact h7.out.alloc h7.out.size _)
    have hsz : w7.heap.size < W.heap.size := by rw [← hW]; simp
    rw [hW] at KS ⊢
    obtain ⟨a0, a1, a2, a3, a4, a5, _⟩ := blk6_facts KS.out.1
    have qk : W.cell? ⟨b, off + k, none⟩ = some (.int .i64 s) := (HBW.out.cell (p := ⟨b, off + k, none⟩) hb).trans HC.out
    have hbW : b < W.heap.size := Nat.lt_of_lt_of_le hb HBW.out.size
    clear hW
    go_upto_region 10 with fail
    go_cut [19, 20] (fun s19 s20 wx => ∃ bt, s19 = .pointer (some ⟨bt, 0, none⟩) ∧ s20 = .int .i64 0 ∧ Hid (Blk wx bt #[.int .i64 y0, .int .i64 y1, .int .i64 y2, .int .i64 y3, .int .i64 y4, .int .i64 y5] 34) ∧ Hid (Below W.heap.size W wx))
    case first =>
      go_region_with (go_at_call 22; refine (strip_c s x0 x1 x2 x3 x4 x5 y0 y1 y2 y3 y4 y5 0 _ HSS1.out HSS2.out).mono ?_; rintro e u1 ⟨rfl, hbs⟩; obtain ⟨hcl, hfr⟩ := bcell hbs; have hszu := hbs.size; simp at hszu)
      all_goals
        go_wp2_with fail
        go_meet
        first
          | with_reducible exact ⟨_, rfl, rfl, leafA hbs⟩
          | with_reducible exact ⟨_, rfl, rfl, leafB hbs⟩

    case rest =>
    obtain ⟨bt, rfl, rfl, HT, HB⟩ := hcut
    have K8 := Lib.hid (KS.out.below HB.out)
    have h9 := Lib.hid (h8.out.trans (HB.out.mono h8.out.size))
    have K9 := Lib.hid (show Blks wc ((bt, #[.int .i64 y0, .int .i64 y1, .int .i64 y2, .int .i64 y3, .int .i64 y4, .int .i64 y5], 34) :: _) from ⟨HT.out, K8.out⟩)
    clear a0 a1 a2 a3 a4 a5 qk hbW hsz
    obtain ⟨f0, f1, f2⟩ := blk3_facts K9.out.2.2.1
    obtain ⟨g0, g1, g2⟩ := blk3_facts K9.out.2.2.2.1
    have l1 := K9.out.2.2.1.lt; have l2 := K9.out.2.2.2.1.lt
    dsimp only at l1 l2
    go_wp2_with fail
    refine (seal_c J' n0 n1 n2 r0 r1 r2 y0 y1 y2 y3 y4 y5 0 _ HY.out HYE.out).mono ?_; rintro e w9 ⟨rfl, hb9⟩
    have K10 := Lib.hid (K9.out.below hb9)
    have h10 := Lib.hid (bel_trans h9.out hb9); clear hb9 f0 f1 f2 g0 g1 g2 l1 l2
    have K11 := Lib.hid (K10.out.box #[.int .i64 y0, .int .i64 y1, .int .i64 y2, .int .i64 y3, .int .i64 y4, .int .i64 y5] 34)
    have h11 := Lib.hid (h10.out.alloc h10.out.size (.cells #[.int .i64 y0, .int .i64 y1, .int .i64 y2, .int .i64 y3, .int .i64 y4, .int .i64 y5] 34))
    obtain ⟨a0, a1, a2, a3, a4, a5, _⟩ := blk6_facts K10.out.1
    have l1 := K10.out.1.lt
    dsimp only at l1
    go_wp2_with fail
    go_ret
    exact ⟨rfl, h11.out⟩


namespace elgamalPart
theorem readable : ∀ t ∈ Try.f6.params.toList, Try.prog.readableRec t = true ∧ t < Try.prog.types.size := by
  rw [Try.params6]
  intro t ht
  simp only [List.mem_cons, List.not_mem_nil, or_false] at ht
  rcases ht with rfl | rfl | rfl | rfl
  all_goals exact ⟨by kernel_rfl, by decide +kernel⟩

set_option maxRecDepth 100000 in
theorem lifted (os : Os) (started : os.Started) (H : Type) (enc : TypeId × Value → H) :
    ReturnsInHanded {} Try.checked os 6 .any (Rows.elgamalPartSpec.pre6 enc Try.prog Try.f6 Rows.elgamalPartRow.domain false) (Rows.elgamalPartSpec.post enc Try.prog Try.f6 false true false false) := by
  refine returnsInHanded_of_change (C := Try.checked) own_knob started (by kernel_rfl) Try.func6
    (ChangeSpec.witness6 (enc := enc) (C := Try.checked) false ⟨#[], #[.slice none 0 0, .agg #[.int .i64 0, .int .i64 0, .int .i64 0], .agg #[.int .i64 0, .int .i64 0, .int .i64 0], .int .u8 0], []⟩ 8 (by kernel_rfl) (by kernel_rfl) (by kernel_rfl) (by kernel_rfl)) ?_
  intro W base args ds gs before hval0 hW hcnd _
  have hval : ∀ (j : Nat) t v, Try.f6.params[j]? = some t → args[j]? = some v → Value.okWide Try.prog W .any base t v := hval0
  have hW' := hW
  obtain ⟨p, q, hA0, hV, rfl, hfz, hnd⟩ := hW
  have hA : DataW.TrodAll enc Try.prog W 0 (fun _ => true) true Try.f6.params.toList args.toList ds p := hA0
  rw [Try.params6] at hA hval
  obtain ⟨v0, vs0, d0, ds0, p0, q0, hargs, rfl, rfl, h0, r0⟩ := trodAll_cons hA
  obtain ⟨v1, vs1, d1, ds1, p1, q1, rfl, rfl, rfl, h1, r1⟩ := trodAll_cons r0
  obtain ⟨v2, vs2, d2, ds2, p2, q2, rfl, rfl, rfl, h2, r2⟩ := trodAll_cons r1
  obtain ⟨v3, vs3, d3, ds3, p3, q3, rfl, rfl, rfl, h3, r3⟩ := trodAll_cons r2
  obtain ⟨rfl, rfl, rfl⟩ := trodAll_nil r3
  obtain rfl : args = #[v0, v1, v2, v3] := by cases args; simp_all
  obtain ⟨rfl, rfl⟩ := trodVars_none hV
  obtain ⟨s0, n0, c0, z0, rfl, w0, wc0, wm0⟩ := open_intsC Try.underlying22 Try.underlying3 (by kernel_rfl) (hval 0 22 v0 rfl rfl) h0
  obtain ⟨a1, b1, c1, rfl, wa1, wb1, wc1⟩ := open_arr3 Try.underlying30 Try.underlying3 (by kernel_rfl) (by kernel_rfl) (hval 1 30 v1 rfl rfl) h1
  obtain ⟨a2, b2, c2, rfl, wa2, wb2, wc2⟩ := open_arr3 Try.underlying29 Try.underlying3 (by kernel_rfl) (by kernel_rfl) (hval 2 29 v2 rfl rfl) h2
  obtain ⟨a3, rfl, rfl, rfl, w3⟩ := open_int Try.underlying5 (hval 3 5 v3 rfl rfl) h3
  clear hA0 hval0
  refine (elgamalPart_walk s0 n0 c0 z0 a1 b1 c1 a2 b2 c2 a3 W (Lib.hid w0) wc0 wm0 w3).mono fun e W' ⟨he, hb⟩ => ?_
  subst he
  exact ⟨_, rfl, law_post laid_out readable rfl rfl Try.underlying4 hW' rfl rfl rfl hb⟩

theorem over : Rows.elgamalPartRow.holds Try.pinned (OpenSpec.ofChange Rows.elgamalPartSpec) :=
  OpenClaim.holds_of_wide 6 Try.f6 rfl rfl rfl rfl rfl rfl rfl ⟨rfl, rfl, rfl, rfl, rfl⟩ rfl rfl rfl rfl rfl (by kernel_rfl) Try.func6 (by kernel_rfl)
    (of_decide_eq_true (by kernel_rfl)) (by unfold Func.isWrapper; first | (rw [if_pos (by decide +kernel)]; kernel_rfl) | (rw [if_neg (by decide +kernel)]; exact ⟨rfl, rfl⟩))
    (fun os started H enc _ => lifted os started H enc)

/-- the statement -/
theorem proved : Rows.ElgamalPartSaid := over
end elgamalPart
end Go.Proofs.Ytbmeljkdemdloaa
