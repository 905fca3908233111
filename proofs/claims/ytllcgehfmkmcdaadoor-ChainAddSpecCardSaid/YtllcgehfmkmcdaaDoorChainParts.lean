/- Two chains are equal up to where they part. No condition. -/
import Derived.Test.YtllcgehfmkmcdaaDoorChnSan
import Derived.Test.YtllcgehfmkmcdaaDoorChnSame
import Derived.Test.YtllcgehfmkmcdaaDoorLkArg
namespace Go.Proofs.YtllcgehfmkmcdaaDoor
open Go.ChangeShapes Go.WideShapes Go.ChangeAt Go.RowKit Go.WideElems Go.Shelf
set_option linter.unusedVariables false
set_option linter.unusedSimpArgs false

theorem fst_ex (f : Nat → Bool) : ∀ t, AllB f t ∨ ∃ k, k < t ∧ AllB f k ∧ f k = false
  | 0 => .inl fun i hi => absurd hi (by omega)
  | t + 1 => by
    rcases fst_ex f t with h | ⟨k, hk, ha, hf⟩
    · cases hf : f t with
      | true =>
        refine .inl fun i hi => ?_
        rcases Nat.lt_or_ge i t with h1 | h1
        · exact h i h1
        · obtain rfl : i = t := by omega
          exact hf
      | false => exact .inr ⟨t, by omega, h, hf⟩
    · exact .inr ⟨k, by omega, ha, hf⟩
theorem samB_comm (x y : Lk) : samB x y = samB y x := by
  rw [Bool.eq_iff_iff, samB_iff, samB_iff]
  exact ⟨fun h => ⟨h.1.symm, h.2.1.symm, h.2.2.1.symm, h.2.2.2.symm⟩, fun h => ⟨h.1.symm, h.2.1.symm, h.2.2.1.symm, h.2.2.2.symm⟩⟩
theorem fst_all {ls ms : List Lk} {t : Nat} (h : AllB (fun j => samB (ls.getD j lk0) (ms.getD j lk0)) t) : IsFst ls ms t 0 false := ⟨fun _ => ⟨rfl, rfl⟩, fun k hk _ hf => by
  have h2 : samB (ls.getD k lk0) (ms.getD k lk0) = true := h k hk
  rw [hf] at h2; cases h2⟩
theorem fst_at {ls ms : List Lk} {t k : Nat} (hk : k < t) (h : AllB (fun j => samB (ls.getD j lk0) (ms.getD j lk0)) k) (hf : samB (ls.getD k lk0) (ms.getD k lk0) = false) : IsFst ls ms t k true := by
  refine ⟨fun ha => ?_, fun j hj ha hg => ?_⟩
  · have h2 : samB (ls.getD k lk0) (ms.getD k lk0) = true := ha k hk
    rw [hf] at h2; cases h2
  · rcases Nat.lt_trichotomy j k with h1 | rfl | h1
    · have h2 : samB (ls.getD j lk0) (ms.getD j lk0) = true := h j h1
      rw [hg] at h2; cases h2
    · exact ⟨rfl, rfl⟩
    · have h2 : samB (ls.getD k lk0) (ms.getD k lk0) = true := ha k h1
      rw [hf] at h2; cases h2
theorem allB_comm {ls ms : List Lk} {t : Nat} (h : AllB (fun j => samB (ls.getD j lk0) (ms.getD j lk0)) t) : AllB (fun j => samB (ms.getD j lk0) (ls.getD j lk0)) t := fun i hi => by
  show samB (ms.getD i lk0) (ls.getD i lk0) = true
  rw [samB_comm]; exact h i hi
theorem getD_takeL {ls : List Lk} {t k : Nat} (h : k < t) : (ls.take t).getD k lk0 = ls.getD k lk0 := by simp [List.getD, List.getElem?_take, h]
theorem sm_take {ls ms : List Lk} {t : Nat} (h : AllB (fun j => samB (ls.getD j lk0) (ms.getD j lk0)) t) : IsSm (ls.take t) (ms.take t) true := ⟨fun _ => rfl, fun k hk hf => by
  have hk2 : k < t := by rw [List.length_take] at hk; omega
  rw [getD_takeL hk2, getD_takeL hk2] at hf
  have h2 : samB (ls.getD k lk0) (ms.getD k lk0) = true := h k hk2
  rw [hf] at h2; cases h2⟩
set_option maxRecDepth 100000 in
set_option maxHeartbeats 8000000 in
theorem parts_f0 (p : Option Addr) (n c : Nat) (ls : List Lk) (q : Option Addr) (m d : Nat) (ms : List Lk) (w : World) (hs : Hid (LksV w p n c ls)) (hz : Hid (LksV w q m d ms)) (hkey : Hid (KeysAt w)) (hfa : Hid (fewB ls = false)) :
    Calls Tryd.prog 7 #[.slice p n c, .slice q m d] w fun r w' => r = .returned (.bool true) ∧ Below w.heap.size w w' := by
  have hnc := hs.out.nc
  have hcm := hs.out.cm
  have hmd := hz.out.nc
  have hdm := hz.out.cm
  go_enter Tryd.func7, Tryd.ntmps7
  go_wp2_with (first
    | (go_at_call 8; with_reducible refine (sane08_any w hkey).mono ?_; rintro r w1 ⟨rfl, hb⟩; have B1 := Lib.hid hb; clear hb)
    | (go_at_call 9; with_reducible refine (rfew_is p n c ls _ (Lib.hid (hs.out.below B1.out)) false hfa).mono ?_; rintro r w' ⟨rfl, rfl⟩))
  go_ret
  exact ⟨rfl, B1.out⟩
set_option maxRecDepth 100000 in
set_option maxHeartbeats 8000000 in
theorem parts_f1 (p : Option Addr) (n c : Nat) (ls : List Lk) (q : Option Addr) (m d : Nat) (ms : List Lk) (w : World) (hs : Hid (LksV w p n c ls)) (hz : Hid (LksV w q m d ms)) (hkey : Hid (KeysAt w)) (hfa : Hid (fewB ls = true)) (hfb : Hid (fewB ms = false)) :
    Calls Tryd.prog 7 #[.slice p n c, .slice q m d] w fun r w' => r = .returned (.bool true) ∧ Below w.heap.size w w' := by
  have hnc := hs.out.nc
  have hcm := hs.out.cm
  have hmd := hz.out.nc
  have hdm := hz.out.cm
  go_enter Tryd.func7, Tryd.ntmps7
  go_wp2_with (first
    | (go_at_call 8; with_reducible refine (sane08_any w hkey).mono ?_; rintro r w1 ⟨rfl, hb⟩; have B1 := Lib.hid hb; clear hb)
    | (go_at_call 9; with_reducible refine (rfew_is p n c ls _ (Lib.hid (hs.out.below B1.out)) true hfa).mono ?_; rintro r w' ⟨rfl, rfl⟩)
    | (go_at_call 9; with_reducible refine (rfew_is q m d ms _ (Lib.hid (hz.out.below B1.out)) false hfb).mono ?_; rintro r w' ⟨rfl, rfl⟩))
  go_ret
  exact ⟨rfl, B1.out⟩
set_option maxRecDepth 100000 in
set_option maxHeartbeats 8000000 in
theorem parts_bad (p : Option Addr) (n c : Nat) (ls : List Lk) (q : Option Addr) (m d : Nat) (ms : List Lk) (w : World) (hs : Hid (LksV w p n c ls)) (hz : Hid (LksV w q m d ms)) (hkey : Hid (KeysAt w)) (hfa : Hid (fewB ls = true)) (hfb : Hid (fewB ms = true)) (HP1 : Hid (∀ g : World, Below w.heap.size w g → Calls Tryd.prog 12 #[.slice p n c, .slice q m d] g fun e w' => e = .returned (.tuple #[.int .i64 0, .bool false, .int .i64 80]) ∧ Below g.heap.size g w')) (HP2 : Hid (∀ g : World, Below w.heap.size w g → Calls Tryd.prog 12 #[.slice q m d, .slice p n c] g fun e w' => e = .returned (.tuple #[.int .i64 0, .bool false, .int .i64 80]) ∧ Below g.heap.size g w')) :
    Calls Tryd.prog 7 #[.slice p n c, .slice q m d] w fun r w' => r = .returned (.bool true) ∧ Below w.heap.size w w' := by
  have hnc := hs.out.nc
  have hcm := hs.out.cm
  have hmd := hz.out.nc
  have hdm := hz.out.cm
  go_enter Tryd.func7, Tryd.ntmps7
  go_upto_region 5 with (first
    | (go_at_call 8; with_reducible refine (sane08_any w hkey).mono ?_; rintro r w1 ⟨rfl, hb⟩; have B1 := Lib.hid hb; clear hb)
    | (go_at_call 9; with_reducible refine (rfew_is p n c ls _ (Lib.hid (hs.out.below B1.out)) true hfa).mono ?_; rintro r w' ⟨rfl, rfl⟩)
    | (go_at_call 9; with_reducible refine (rfew_is q m d ms _ (Lib.hid (hz.out.below B1.out)) true hfb).mono ?_; rintro r w' ⟨rfl, rfl⟩))
  go_upto_region 6 with (go_at_call 12; with_reducible refine (HP1.out _ B1.out).mono ?_; rintro r w2 ⟨rfl, hb⟩; have B2 := Lib.hid (bel_trans B1.out hb); clear hb)
  go_upto_region 7 with (go_at_call 12; with_reducible refine (HP2.out _ B2.out).mono ?_; rintro r w3 ⟨rfl, hb⟩; have B3 := Lib.hid (bel_trans B2.out hb); clear hb)
  go_wp2_with fail
  go_ret
  exact ⟨rfl, B3.out⟩
set_option maxRecDepth 100000 in
set_option maxHeartbeats 8000000 in
theorem parts_none (p : Option Addr) (n c : Nat) (ls : List Lk) (q : Option Addr) (m d : Nat) (ms : List Lk) (w : World) (hs : Hid (LksV w p n c ls)) (hz : Hid (LksV w q m d ms)) (hkey : Hid (KeysAt w)) (hfa : Hid (fewB ls = true)) (hfb : Hid (fewB ms = true)) (t : Nat) (htn : t ≤ n) (htm : t ≤ m) (hmin : min (n : Int) (m : Int) = (t : Int)) (HP1 : Hid (∀ g : World, Below w.heap.size w g → Calls Tryd.prog 12 #[.slice p n c, .slice q m d] g fun e w' => e = .returned (.tuple #[.int .i64 0, .bool false, .int .i64 0]) ∧ Below g.heap.size g w')) (HP2 : Hid (∀ g : World, Below w.heap.size w g → Calls Tryd.prog 12 #[.slice q m d, .slice p n c] g fun e w' => e = .returned (.tuple #[.int .i64 0, .bool false, .int .i64 0]) ∧ Below g.heap.size g w')) (HS : Hid (∀ g : World, Below w.heap.size w g → Calls Tryd.prog 14 #[.slice p t c, .slice q t d] g fun e w' => e = .returned (.bool true) ∧ Below g.heap.size g w')) :
    Calls Tryd.prog 7 #[.slice p n c, .slice q m d] w fun r w' => r = .returned (.bool true) ∧ Below w.heap.size w w' := by
  have hnc := hs.out.nc
  have hcm := hs.out.cm
  have hmd := hz.out.nc
  have hdm := hz.out.cm
  go_enter Tryd.func7, Tryd.ntmps7
  go_upto_region 5 with (first
    | (go_at_call 8; with_reducible refine (sane08_any w hkey).mono ?_; rintro r w1 ⟨rfl, hb⟩; have B1 := Lib.hid hb; clear hb)
    | (go_at_call 9; with_reducible refine (rfew_is p n c ls _ (Lib.hid (hs.out.below B1.out)) true hfa).mono ?_; rintro r w' ⟨rfl, rfl⟩)
    | (go_at_call 9; with_reducible refine (rfew_is q m d ms _ (Lib.hid (hz.out.below B1.out)) true hfb).mono ?_; rintro r w' ⟨rfl, rfl⟩))
  go_upto_region 6 with (go_at_call 12; with_reducible refine (HP1.out _ B1.out).mono ?_; rintro r w2 ⟨rfl, hb⟩; have B2 := Lib.hid (bel_trans B1.out hb); clear hb)
  go_upto_region 7 with (go_at_call 12; with_reducible refine (HP2.out _ B2.out).mono ?_; rintro r w3 ⟨rfl, hb⟩; have B3 := Lib.hid (bel_trans B2.out hb); clear hb)
  have htc : t ≤ c := by omega
  have htd : t ≤ d := by omega
  go_upto_region 13 with fail
  refine wp_region_any (by kernel_rfl) ?_
  change wpAny _ _ _ _ _ _ _ (World.drew _)
  generalize hWD : World.drew _ = V
  have BX := Lib.hid (show Below w.heap.size w V by rw [← hWD]; exact B3.out.drew)
  clear hWD
  have hCD : ∀ u, Ext V u → Ext V u := fun u hu => hu
  refine region_U (D := Ext V) (Ext V) [10] (Ext.refl V) ?_
  refine anyU_takeP (i := 0) (j := 10) (v := .int .i64 0) 67 [2, 1] rfl rfl (by kernel_rfl) (by kernel_rfl) (by kernel_rfl) (fun _ _ _ h => h) (by kernel_rfl) (Ext.stable _) hCD (yieldsU_val rfl (fun u hu => by go_simp)) ?_
  refine anyU_takeP (i := 1) (j := 10) (v := .bool true) 68 [2] rfl rfl (by kernel_rfl) (by kernel_rfl) (by kernel_rfl) (fun _ _ _ h => h) (by kernel_rfl) (Ext.stable _) hCD (yieldsU_val rfl (fun u hu => by go_simp)) ?_
  refine anyU_takeP (i := 2) (j := 10) (v := .bool true) 69 [] rfl rfl (by kernel_rfl) (by kernel_rfl) (by kernel_rfl) (fun _ _ _ h => h) (by kernel_rfl) (Ext.stable _) hCD (yieldsU_val rfl (fun u hu => by go_simp)) ?_
  simp only [Act.put, List.setIfInBounds_toArray, List.set_cons_succ, List.set_cons_zero]
  refine anyU_takeP (i := 3) (j := 10) (v := .slice p n c) 70 [9, 5] rfl rfl (by kernel_rfl) (by kernel_rfl) (by kernel_rfl) (fun _ _ _ h => h) (by kernel_rfl) (Ext.stable _) hCD (yieldsU_val rfl (fun u hu => by go_simp)) ?_
  refine anyU_takeP (i := 4) (j := 10) (v := .int .i64 (t : Int)) 71 [9, 5] rfl rfl (by kernel_rfl) (by kernel_rfl) (by kernel_rfl) (fun _ _ _ h => h) (by kernel_rfl) (Ext.stable _) hCD (yieldsU_val rfl (fun u hu => by go_simp)) ?_
  refine anyU_takeP (i := 5) (j := 10) (v := .slice p t c) 72 [9] rfl rfl (by kernel_rfl) (by kernel_rfl) (by kernel_rfl) (fun _ _ _ h => h) (by kernel_rfl) (Ext.stable _) hCD (yieldsU_val rfl (fun u hu => by go_simp)) ?_
  simp only [Act.put, List.setIfInBounds_toArray, List.set_cons_succ, List.set_cons_zero]
  refine anyU_takeP (i := 6) (j := 10) (v := .slice q m d) 73 [9, 8] rfl rfl (by kernel_rfl) (by kernel_rfl) (by kernel_rfl) (fun _ _ _ h => h) (by kernel_rfl) (Ext.stable _) hCD (yieldsU_val rfl (fun u hu => by go_simp)) ?_
  refine anyU_takeP (i := 7) (j := 10) (v := .int .i64 (t : Int)) 74 [9, 8] rfl rfl (by kernel_rfl) (by kernel_rfl) (by kernel_rfl) (fun _ _ _ h => h) (by kernel_rfl) (Ext.stable _) hCD (yieldsU_val rfl (fun u hu => by go_simp)) ?_
  refine anyU_takeP (i := 8) (j := 10) (v := .slice q t d) 75 [9] rfl rfl (by kernel_rfl) (by kernel_rfl) (by kernel_rfl) (fun _ _ _ h => h) (by kernel_rfl) (Ext.stable _) hCD (yieldsU_val rfl (fun u hu => by go_simp)) ?_
  simp only [Act.put, List.setIfInBounds_toArray, List.set_cons_succ, List.set_cons_zero]
  refine anyU_takeP (i := 9) (j := 10) (v := .bool true) 76 [] rfl rfl (by kernel_rfl) (by kernel_rfl) (by kernel_rfl) (fun _ _ _ h => h) (by kernel_rfl) (Ext.stable _) hCD (yieldsU_call rfl 14 _ _ rfl #[.slice p t c, .slice q t d] (by simp [Act.eval, Act.put]) (fun u => by go_simp) (fun u hu => HS.out u (bel_trans BX.out hu))) ?_
  simp only [Act.put, List.setIfInBounds_toArray, List.set_cons_succ, List.set_cons_zero]
  refine anyU_tail 10 [11] rfl rfl (by decide) (by kernel_rfl) ?_
  intro u hu
  simp only [Act.put, List.filterMap_cons, List.filterMap_nil, List.getElem?_cons_succ, List.getElem?_cons_zero]
  have BU := Lib.hid (bel_trans BX.out hu)
  clear hu
  go_wp2_with fail
  go_ret
  exact ⟨rfl, BU.out⟩
set_option maxRecDepth 100000 in
set_option maxHeartbeats 8000000 in
theorem parts_some (p : Option Addr) (n c : Nat) (ls : List Lk) (q : Option Addr) (m d : Nat) (ms : List Lk) (w : World) (hs : Hid (LksV w p n c ls)) (hz : Hid (LksV w q m d ms)) (hkey : Hid (KeysAt w)) (hfa : Hid (fewB ls = true)) (hfb : Hid (fewB ms = true)) (t : Nat) (htn : t ≤ n) (htm : t ≤ m) (hmin : min (n : Int) (m : Int) = (t : Int)) (k : Nat) (hk : k < t) (hf : Hid (samB (ls.getD k lk0) (ms.getD k lk0) = false)) (HP1 : Hid (∀ g : World, Below w.heap.size w g → Calls Tryd.prog 12 #[.slice p n c, .slice q m d] g fun e w' => e = .returned (.tuple #[.int .i64 (k : Int), .bool true, .int .i64 0]) ∧ Below g.heap.size g w')) (HP2 : Hid (∀ g : World, Below w.heap.size w g → Calls Tryd.prog 12 #[.slice q m d, .slice p n c] g fun e w' => e = .returned (.tuple #[.int .i64 (k : Int), .bool true, .int .i64 0]) ∧ Below g.heap.size g w')) (HS : Hid (∀ g : World, Below w.heap.size w g → Calls Tryd.prog 14 #[.slice p k c, .slice q k d] g fun e w' => e = .returned (.bool true) ∧ Below g.heap.size g w')) :
    Calls Tryd.prog 7 #[.slice p n c, .slice q m d] w fun r w' => r = .returned (.bool true) ∧ Below w.heap.size w w' := by
  have hkn : k < n := by omega
  have hkm : k < m := by omega
  obtain ⟨b, off, hp, hb, hr, hl⟩ := hs.out.at hkn
  obtain ⟨b2, off2, hp2, hb2, hr2, hl2⟩ := hz.out.at hkm
  have HXO := Lib.hid (hs.out.ok _ (getD_memL (i := k) (by have := hs.out.len; omega)))
  have HYO := Lib.hid (hz.out.ok _ (getD_memL (i := k) (by have := hz.out.len; omega)))
  obtain ⟨x, hx⟩ : ∃ x, ls.getD k lk0 = x := ⟨_, rfl⟩
  obtain ⟨y, hy⟩ : ∃ y, ms.getD k lk0 = y := ⟨_, rfl⟩
  have HSB := Lib.hid (show samB x y = false by rw [← hx, ← hy]; exact hf.out)
  rw [hx] at hr hl HXO
  rw [hy] at hr2 hl2 HYO
  subst hp
  subst hp2
  have hxl := Lib.hid hl.len
  have hyl := Lib.hid hl2.len
  have R1 := Lib.hid hr
  have R2 := Lib.hid hr2
  clear hr hr2 hl hl2 hx hy hf
  have hnc := hs.out.nc
  have hcm := hs.out.cm
  have hmd := hz.out.nc
  have hdm := hz.out.cm
  go_enter Tryd.func7, Tryd.ntmps7
  go_upto_region 5 with (first
    | (go_at_call 8; with_reducible refine (sane08_any w hkey).mono ?_; rintro r w1 ⟨rfl, hb⟩; have B1 := Lib.hid hb; clear hb)
    | (go_at_call 9; with_reducible refine (rfew_is (some ⟨b, off, none⟩) n c ls _ (Lib.hid (hs.out.below B1.out)) true hfa).mono ?_; rintro r w' ⟨rfl, rfl⟩)
    | (go_at_call 9; with_reducible refine (rfew_is (some ⟨b2, off2, none⟩) m d ms _ (Lib.hid (hz.out.below B1.out)) true hfb).mono ?_; rintro r w' ⟨rfl, rfl⟩))
  go_upto_region 6 with (go_at_call 12; with_reducible refine (HP1.out _ B1.out).mono ?_; rintro r w2 ⟨rfl, hb⟩; have B2 := Lib.hid (bel_trans B1.out hb); clear hb)
  go_upto_region 7 with (go_at_call 12; with_reducible refine (HP2.out _ B2.out).mono ?_; rintro r w3 ⟨rfl, hb⟩; have B3 := Lib.hid (bel_trans B2.out hb); clear hb)
  have hkc : k ≤ c := by omega
  have hkd : k ≤ d := by omega
  have hkt : (k : Int) < (t : Int) := by omega
  go_upto_region 14 with fail
  refine wp_region_any (by kernel_rfl) ?_
  change wpAny _ _ _ _ _ _ _ (World.drew _)
  generalize hWD : World.drew _ = V
  have BX := Lib.hid (show Below w.heap.size w V by rw [← hWD]; exact B3.out.drew)
  clear hWD
  have RX := Lib.hid (show V.rangeAt b (off + k * 35) (lkv x) from bel_range BX.out R1.out hb)
  have RY := Lib.hid (show V.rangeAt b2 (off2 + k * 35) (lkv y) from bel_range BX.out R2.out hb2)
  have hbV : b < V.heap.size := Nat.lt_of_lt_of_le hb BX.out.size
  have hb2V : b2 < V.heap.size := Nat.lt_of_lt_of_le hb2 BX.out.size
  have hCD : ∀ u, Ext V u → Ext V u := fun u hu => hu
  refine region_U (D := Ext V) (Ext V) [27] (Ext.refl V) ?_
  refine anyU_takeP (i := 0) (j := 27) (v := .int .i64 (k : Int)) 78 [16, 15, 7, 2, 1] rfl rfl (by kernel_rfl) (by kernel_rfl) (by kernel_rfl) (fun _ _ _ h => h) (by kernel_rfl) (Ext.stable _) hCD (yieldsU_val rfl (fun u hu => by go_simp)) ?_
  refine anyU_takeP (i := 1) (j := 27) (v := .bool true) 79 [16, 15, 7, 2] rfl rfl (by kernel_rfl) (by kernel_rfl) (by kernel_rfl) (fun _ _ _ h => h) (by kernel_rfl) (Ext.stable _) hCD (yieldsU_val rfl (fun u hu => by go_simp)) ?_
  refine anyU_takeP (i := 2) (j := 27) (v := .bool true) 80 [16, 15, 7] rfl rfl (by kernel_rfl) (by kernel_rfl) (by kernel_rfl) (fun _ _ _ h => h) (by kernel_rfl) (Ext.stable _) hCD (yieldsU_val rfl (fun u hu => by go_simp)) ?_
  refine anyU_takeP (i := 3) (j := 27) (v := .int .i64 (k : Int)) 81 [16, 15, 7, 6, 5] rfl rfl (by kernel_rfl) (by kernel_rfl) (by kernel_rfl) (fun _ _ _ h => h) (by kernel_rfl) (Ext.stable _) hCD (yieldsU_val rfl (fun u hu => by go_simp)) ?_
  refine anyU_takeP (i := 4) (j := 27) (v := .int .i64 (t : Int)) 82 [16, 15, 7, 6, 5] rfl rfl (by kernel_rfl) (by kernel_rfl) (by kernel_rfl) (fun _ _ _ h => h) (by kernel_rfl) (Ext.stable _) hCD (yieldsU_val rfl (fun u hu => by go_simp)) ?_
  refine anyU_takeP (i := 5) (j := 27) (v := .bool true) 83 [16, 15, 7, 6] rfl rfl (by kernel_rfl) (by kernel_rfl) (by kernel_rfl) (fun _ _ _ h => h) (by kernel_rfl) (Ext.stable _) hCD (yieldsU_val rfl (fun u hu => by go_simp)) ?_
  simp only [Act.put, List.setIfInBounds_toArray, List.set_cons_succ, List.set_cons_zero]
  refine anyU_takeP (i := 6) (j := 27) (v := .bool true) 84 [16, 15, 7] rfl rfl (by kernel_rfl) (by kernel_rfl) (by kernel_rfl) (fun _ _ _ h => h) (by kernel_rfl) (Ext.stable _) hCD (yieldsU_val rfl (fun u hu => by go_simp)) ?_
  refine anyU_takeP (i := 7) (j := 27) (v := .bool true) 85 [16, 15] rfl rfl (by kernel_rfl) (by kernel_rfl) (by kernel_rfl) (fun _ _ _ h => h) (by kernel_rfl) (Ext.stable _) hCD (yieldsU_val rfl (fun u hu => by go_simp)) ?_
  simp only [Act.put, List.setIfInBounds_toArray, List.set_cons_succ, List.set_cons_zero]
  refine anyU_takeP (i := 8) (j := 27) (v := .slice (some ⟨b, off, none⟩) n c) 86 [16, 14, 10] rfl rfl (by kernel_rfl) (by kernel_rfl) (by kernel_rfl) (fun _ _ _ h => h) (by kernel_rfl) (Ext.stable _) hCD (yieldsU_val rfl (fun u hu => by go_simp)) ?_
  refine anyU_takeP (i := 9) (j := 27) (v := .int .i64 (k : Int)) 87 [16, 14, 10] rfl rfl (by kernel_rfl) (by kernel_rfl) (by kernel_rfl) (fun _ _ _ h => h) (by kernel_rfl) (Ext.stable _) hCD (yieldsU_val rfl (fun u hu => by go_simp)) ?_
  refine anyU_takeP (i := 10) (j := 27) (v := .slice (some ⟨b, off, none⟩) k c) 88 [16, 14] rfl rfl (by kernel_rfl) (by kernel_rfl) (by kernel_rfl) (fun _ _ _ h => h) (by kernel_rfl) (Ext.stable _) hCD (yieldsU_val rfl (fun u hu => by go_simp)) ?_
  simp only [Act.put, List.setIfInBounds_toArray, List.set_cons_succ, List.set_cons_zero]
  refine anyU_takeP (i := 11) (j := 27) (v := .slice (some ⟨b2, off2, none⟩) m d) 89 [16, 14, 13] rfl rfl (by kernel_rfl) (by kernel_rfl) (by kernel_rfl) (fun _ _ _ h => h) (by kernel_rfl) (Ext.stable _) hCD (yieldsU_val rfl (fun u hu => by go_simp)) ?_
  refine anyU_takeP (i := 12) (j := 27) (v := .int .i64 (k : Int)) 90 [16, 14, 13] rfl rfl (by kernel_rfl) (by kernel_rfl) (by kernel_rfl) (fun _ _ _ h => h) (by kernel_rfl) (Ext.stable _) hCD (yieldsU_val rfl (fun u hu => by go_simp)) ?_
  refine anyU_takeP (i := 13) (j := 27) (v := .slice (some ⟨b2, off2, none⟩) k d) 91 [16, 14] rfl rfl (by kernel_rfl) (by kernel_rfl) (by kernel_rfl) (fun _ _ _ h => h) (by kernel_rfl) (Ext.stable _) hCD (yieldsU_val rfl (fun u hu => by go_simp)) ?_
  simp only [Act.put, List.setIfInBounds_toArray, List.set_cons_succ, List.set_cons_zero]
  refine anyU_takeP (i := 14) (j := 27) (v := .bool true) 92 [16] rfl rfl (by kernel_rfl) (by kernel_rfl) (by kernel_rfl) (fun _ _ _ h => h) (by kernel_rfl) (Ext.stable _) hCD (yieldsU_call rfl 14 _ _ rfl #[.slice (some ⟨b, off, none⟩) k c, .slice (some ⟨b2, off2, none⟩) k d] (by simp [Act.eval, Act.put]) (fun u => by go_simp) (fun u hu => HS.out u (bel_trans BX.out hu))) ?_
  simp only [Act.put, List.setIfInBounds_toArray, List.set_cons_succ, List.set_cons_zero]
  refine anyU_takeP (i := 15) (j := 27) (v := .bool true) 93 [16] rfl rfl (by kernel_rfl) (by kernel_rfl) (by kernel_rfl) (fun _ _ _ h => h) (by kernel_rfl) (Ext.stable _) hCD (yieldsU_val rfl (fun u hu => by go_simp)) ?_
  refine anyU_takeP (i := 16) (j := 27) (v := .bool true) 94 [] rfl rfl (by kernel_rfl) (by kernel_rfl) (by kernel_rfl) (fun _ _ _ h => h) (by kernel_rfl) (Ext.stable _) hCD (yieldsU_val rfl (fun u hu => by go_simp)) ?_
  simp only [Act.put, List.setIfInBounds_toArray, List.set_cons_succ, List.set_cons_zero]
  refine anyU_takeP (i := 17) (j := 27) (v := .slice (some ⟨b, off, none⟩) n c) 95 [26, 25, 20, 19] rfl rfl (by kernel_rfl) (by kernel_rfl) (by kernel_rfl) (fun _ _ _ h => h) (by kernel_rfl) (Ext.stable _) hCD (yieldsU_val rfl (fun u hu => by go_simp)) ?_
  refine anyU_takeP (i := 18) (j := 27) (v := .int .i64 (k : Int)) 96 [26, 25, 20, 19] rfl rfl (by kernel_rfl) (by kernel_rfl) (by kernel_rfl) (fun _ _ _ h => h) (by kernel_rfl) (Ext.stable _) hCD (yieldsU_val rfl (fun u hu => by go_simp)) ?_
  refine anyU_takeP (i := 19) (j := 27) (v := .pointer (some ⟨b, off + k * 35, none⟩)) 97 [26, 25, 20] rfl rfl (by kernel_rfl) (by kernel_rfl) (by kernel_rfl) (fun _ _ _ h => h) (by kernel_rfl) (Ext.stable _) hCD (yieldsU_val rfl (fun u hu => by go_simp)) ?_
  refine anyU_takeP (i := 20) (j := 27) (v := .agg (lkv x).toArray) 98 [26, 25] rfl rfl (by kernel_rfl) (by kernel_rfl) (by kernel_rfl) (fun _ _ _ h => h) (by kernel_rfl) (Ext.stable _) hCD (yieldsU_of_C (yields_loadK (by rfl) (.tmp 97) rfl b (off + k * 35) rfl x hxl.out (fun u hu => bel_range hu RX.out hbV))) ?_
  simp only [Act.put, List.setIfInBounds_toArray, List.set_cons_succ, List.set_cons_zero]
  refine anyU_takeP (i := 21) (j := 27) (v := .slice (some ⟨b2, off2, none⟩) m d) 99 [26, 25, 24, 23] rfl rfl (by kernel_rfl) (by kernel_rfl) (by kernel_rfl) (fun _ _ _ h => h) (by kernel_rfl) (Ext.stable _) hCD (yieldsU_val rfl (fun u hu => by go_simp)) ?_
  refine anyU_takeP (i := 22) (j := 27) (v := .int .i64 (k : Int)) 100 [26, 25, 24, 23] rfl rfl (by kernel_rfl) (by kernel_rfl) (by kernel_rfl) (fun _ _ _ h => h) (by kernel_rfl) (Ext.stable _) hCD (yieldsU_val rfl (fun u hu => by go_simp)) ?_
  refine anyU_takeP (i := 23) (j := 27) (v := .pointer (some ⟨b2, off2 + k * 35, none⟩)) 101 [26, 25, 24] rfl rfl (by kernel_rfl) (by kernel_rfl) (by kernel_rfl) (fun _ _ _ h => h) (by kernel_rfl) (Ext.stable _) hCD (yieldsU_val rfl (fun u hu => by go_simp)) ?_
  refine anyU_takeP (i := 24) (j := 27) (v := .agg (lkv y).toArray) 102 [26, 25] rfl rfl (by kernel_rfl) (by kernel_rfl) (by kernel_rfl) (fun _ _ _ h => h) (by kernel_rfl) (Ext.stable _) hCD (yieldsU_of_C (yields_loadK (by rfl) (.tmp 101) rfl b2 (off2 + k * 35) rfl y hyl.out (fun u hu => bel_range hu RY.out hb2V))) ?_
  simp only [Act.put, List.setIfInBounds_toArray, List.set_cons_succ, List.set_cons_zero]
  refine anyU_takeP (i := 25) (j := 27) (v := .bool false) 103 [26] rfl rfl (by kernel_rfl) (by kernel_rfl) (by kernel_rfl) (fun _ _ _ h => h) (by kernel_rfl) (Ext.stable _) hCD (yieldsU_call rfl 18 _ _ rfl #[.agg (lkv x).toArray, .agg (lkv y).toArray] (by simp [Act.eval, Act.put]) (fun u => by go_simp) (fun u hu => lsame_is x y u (Lib.hid (HXO.out.below (bel_trans BX.out hu))) (Lib.hid (HYO.out.below (bel_trans BX.out hu))) false HSB)) ?_
  simp only [Act.put, List.setIfInBounds_toArray, List.set_cons_succ, List.set_cons_zero]
  refine anyU_takeP (i := 26) (j := 27) (v := .bool true) 104 [] rfl rfl (by kernel_rfl) (by kernel_rfl) (by kernel_rfl) (fun _ _ _ h => h) (by kernel_rfl) (Ext.stable _) hCD (yieldsU_val rfl (fun u hu => by go_simp)) ?_
  simp only [Act.put, List.setIfInBounds_toArray, List.set_cons_succ, List.set_cons_zero]
  refine anyU_tail 27 [28] rfl rfl (by decide) (by kernel_rfl) ?_
  intro u hu
  simp only [Act.put, List.filterMap_cons, List.filterMap_nil, List.getElem?_cons_succ, List.getElem?_cons_zero]
  have BU := Lib.hid (bel_trans BX.out hu)
  clear hu
  go_wp2_with fail
  go_ret
  exact ⟨rfl, BU.out⟩
theorem parts_walk (p : Option Addr) (n c : Nat) (ls : List Lk) (q : Option Addr) (m d : Nat) (ms : List Lk) (w : World) (hs : Hid (LksV w p n c ls)) (hz : Hid (LksV w q m d ms)) (hkey : Hid (KeysAt w)) :
    Calls Tryd.prog 7 #[.slice p n c, .slice q m d] w fun r w' => r = .returned (.bool true) ∧ Below w.heap.size w w' := by
  cases hfa : fewB ls with
  | false => exact parts_f0 p n c ls q m d ms w hs hz hkey (Lib.hid hfa)
  | true =>
    cases hfb : fewB ms with
    | false => exact parts_f1 p n c ls q m d ms w hs hz hkey (Lib.hid hfa) (Lib.hid hfb)
    | true =>
      have sa := Lib.hid (few_small hfa)
      have sb := Lib.hid (few_small hfb)
      have K : ∀ q : World, Below w.heap.size w q → Hid (KeysAt q) := fun q hq => Lib.hid (hkey.out.below hq)
      obtain ⟨ea, ha⟩ := isChk ls
      obtain ⟨eb, hb⟩ := isChk ms
      rcases ha.two with rfl | rfl
      case inr =>
        rcases hb.two with rfl | rfl
        · exact parts_bad p n c ls q m d ms w hs hz hkey (Lib.hid hfa) (Lib.hid hfb) (Lib.hid fun g hg => cpart_a p q n c m d ls ms g (Lib.hid (hs.out.below hg)) (Lib.hid (hz.out.below hg)) sa sb (K g hg) (Lib.hid ha)) (Lib.hid fun g hg => cpart_b q p m d n c ms ls g (Lib.hid (hz.out.below hg)) (Lib.hid (hs.out.below hg)) sb sa (K g hg) (Lib.hid hb) (Lib.hid ha))
        · exact parts_bad p n c ls q m d ms w hs hz hkey (Lib.hid hfa) (Lib.hid hfb) (Lib.hid fun g hg => cpart_a p q n c m d ls ms g (Lib.hid (hs.out.below hg)) (Lib.hid (hz.out.below hg)) sa sb (K g hg) (Lib.hid ha)) (Lib.hid fun g hg => cpart_a q p m d n c ms ls g (Lib.hid (hz.out.below hg)) (Lib.hid (hs.out.below hg)) sb sa (K g hg) (Lib.hid hb))
      case inl =>
        rcases hb.two with rfl | rfl
        case inr => exact parts_bad p n c ls q m d ms w hs hz hkey (Lib.hid hfa) (Lib.hid hfb) (Lib.hid fun g hg => cpart_b p q n c m d ls ms g (Lib.hid (hs.out.below hg)) (Lib.hid (hz.out.below hg)) sa sb (K g hg) (Lib.hid ha) (Lib.hid hb)) (Lib.hid fun g hg => cpart_a q p m d n c ms ls g (Lib.hid (hz.out.below hg)) (Lib.hid (hs.out.below hg)) sb sa (K g hg) (Lib.hid hb))
        by_cases hdf : 0 < n ∧ 0 < m ∧ ¬ (ls.getD 0 lk0).node = (ms.getD 0 lk0).node
        · exact parts_bad p n c ls q m d ms w hs hz hkey (Lib.hid hfa) (Lib.hid hfb) (Lib.hid fun g hg => cpart_diff p q n c m d ls ms g (Lib.hid (hs.out.below hg)) (Lib.hid (hz.out.below hg)) sa sb (K g hg) (Lib.hid ha) (Lib.hid hb) hdf.1 hdf.2.1 hdf.2.2) (Lib.hid fun g hg => cpart_diff q p m d n c ms ls g (Lib.hid (hz.out.below hg)) (Lib.hid (hs.out.below hg)) sb sa (K g hg) (Lib.hid hb) (Lib.hid ha) hdf.2.1 hdf.1 (fun e => hdf.2.2 e.symm))
        have P1 : ∀ (ri : Int) (rb : Bool), IsFst ls ms (min n m) ri rb → Hid (∀ g : World, Below w.heap.size w g → Calls Tryd.prog 12 #[.slice p n c, .slice q m d] g fun e w' => e = .returned (.tuple #[.int .i64 ri, .bool rb, .int .i64 0]) ∧ Below g.heap.size g w') := fun ri rb hr => Lib.hid fun g hg => by
          by_cases h0 : n = 0
          · exact cpart_n0 p q n c m d ls ms g (Lib.hid (hs.out.below hg)) (Lib.hid (hz.out.below hg)) sa sb (K g hg) (Lib.hid ha) (Lib.hid hb) h0 ri rb (Lib.hid hr)
          by_cases h1 : m = 0
          · exact cpart_m0 p q n c m d ls ms g (Lib.hid (hs.out.below hg)) (Lib.hid (hz.out.below hg)) sa sb (K g hg) (Lib.hid ha) (Lib.hid hb) (by omega) h1 ri rb (Lib.hid hr)
          exact cpart_same p q n c m d ls ms g (Lib.hid (hs.out.below hg)) (Lib.hid (hz.out.below hg)) sa sb (K g hg) (Lib.hid ha) (Lib.hid hb) (by omega) (by omega) (Classical.byContradiction fun e => hdf ⟨by omega, by omega, e⟩) ri rb (Lib.hid hr)
        have P2 : ∀ (ri : Int) (rb : Bool), IsFst ms ls (min m n) ri rb → Hid (∀ g : World, Below w.heap.size w g → Calls Tryd.prog 12 #[.slice q m d, .slice p n c] g fun e w' => e = .returned (.tuple #[.int .i64 ri, .bool rb, .int .i64 0]) ∧ Below g.heap.size g w') := fun ri rb hr => Lib.hid fun g hg => by
          by_cases h0 : m = 0
          · exact cpart_n0 q p m d n c ms ls g (Lib.hid (hz.out.below hg)) (Lib.hid (hs.out.below hg)) sb sa (K g hg) (Lib.hid hb) (Lib.hid ha) h0 ri rb (Lib.hid hr)
          by_cases h1 : n = 0
          · exact cpart_m0 q p m d n c ms ls g (Lib.hid (hz.out.below hg)) (Lib.hid (hs.out.below hg)) sb sa (K g hg) (Lib.hid hb) (Lib.hid ha) (by omega) h1 ri rb (Lib.hid hr)
          exact cpart_same q p m d n c ms ls g (Lib.hid (hz.out.below hg)) (Lib.hid (hs.out.below hg)) sb sa (K g hg) (Lib.hid hb) (Lib.hid ha) (by omega) (by omega) (Classical.byContradiction fun e => hdf ⟨by omega, by omega, fun e2 => e e2.symm⟩) ri rb (Lib.hid hr)
        obtain ⟨t, ht⟩ : ∃ t, min n m = t := ⟨_, rfl⟩
        have ht2 : min m n = t := by omega
        rw [ht] at P1
        rw [ht2] at P2
        have hmin : min (n : Int) (m : Int) = (t : Int) := by omega
        have hn40 : n ≤ 40 := by have := sa.out.n; have := hs.out.len; omega
        have SM : ∀ j, j ≤ t → AllB (fun i => samB (ls.getD i lk0) (ms.getD i lk0)) j → Hid (∀ g : World, Below w.heap.size w g → Calls Tryd.prog 14 #[.slice p j c, .slice q j d] g fun e w' => e = .returned (.bool true) ∧ Below g.heap.size g w') := fun j hj h => Lib.hid fun g hg => rsame_eq p q j c d (ls.take j) (ms.take j) g (Lib.hid ((hs.out.below hg).take (by omega))) (Lib.hid ((hz.out.below hg).take (by omega))) (by omega) true (Lib.hid (sm_take h))
        rcases fst_ex (fun j => samB (ls.getD j lk0) (ms.getD j lk0)) t with h | ⟨k, hk, h, hf⟩
        · exact parts_none p n c ls q m d ms w hs hz hkey (Lib.hid hfa) (Lib.hid hfb) t (by omega) (by omega) hmin (P1 0 false (fst_all h)) (P2 0 false (fst_all (allB_comm h))) (SM t (Nat.le_refl _) h)
        · exact parts_some p n c ls q m d ms w hs hz hkey (Lib.hid hfa) (Lib.hid hfb) t (by omega) (by omega) hmin k hk (Lib.hid hf) (P1 k true (fst_at hk h hf)) (P2 k true (fst_at hk (allB_comm h) (by rw [samB_comm]; exact hf))) (SM k (by omega) h)

namespace chainParts
theorem readable : ∀ t ∈ Tryd.f7.params.toList, Tryd.prog.readableRec t = true ∧ t < Tryd.prog.types.size := by
  rw [Tryd.params7]
  intro t ht
  simp only [List.mem_cons, List.not_mem_nil, or_false] at ht
  rcases ht with rfl | rfl
  all_goals exact ⟨by kernel_rfl, by decide +kernel⟩

set_option maxRecDepth 100000 in
theorem lifted (os : Os) (started : os.Started) (H : Type) (enc : TypeId × Value → H) :
    ReturnsInHanded {} Tryd.checked os 7 .any (fun w args => (Rows.chainPartsSpec.pre enc Tryd.prog Tryd.f7 [] false w args ∧ laidMetH Tryd.prog laidK w) ∧ sizedMet enc Tryd.prog Tryd.f7 (OpenSpec.ofChange Rows.chainPartsSpec) false w args)
      (Rows.chainPartsSpec.post enc Tryd.prog Tryd.f7 false true false false) := by
  refine returnsInHanded_of_change_and (C := Tryd.checked) (X := fun w _ => laidMetH Tryd.prog laidK w) (fun _ _ _ hh h => h.of_heap hh) own_knob started (by kernel_rfl) Tryd.func7
    (ChangeSpec.witness_shaped (enc := enc) (C := Tryd.checked) (os := os) (X := fun w _ => laidMetH Tryd.prog laidK w) false (World.doorLaid Tryd.prog 400 os) #[.slice none 0 0, .slice none 0 0] 8 rfl (World.shaped_of_RefB (by kernel_rfl) (by kernel_rfl)) (by kernel_rfl) (by kernel_rfl) (by kernel_rfl) (door_met os _)) ?_
  intro W base args ds gs before hval0 hW _ _ hL _
  have hval : ∀ (j : Nat) t v, Tryd.f7.params[j]? = some t → args[j]? = some v → Value.okWide Tryd.prog W .any base t v := hval0
  have hW' := hW
  obtain ⟨p, q, hA0, hV, rfl, hfz, hnd⟩ := hW
  have hA : DataW.TrodAll enc Tryd.prog W 0 (fun _ => true) true Tryd.f7.params.toList args.toList ds p := hA0
  rw [Tryd.params7] at hA hval
  obtain ⟨v0, vs0, d0, ds0, p0, q0, hargs, rfl, rfl, h0, r0⟩ := trodAll_cons hA
  obtain ⟨v1, vs1, d1, ds1, p1, q1, rfl, rfl, rfl, h1, r1⟩ := trodAll_cons r0
  obtain ⟨rfl, rfl, rfl⟩ := trodAll_nil r1
  obtain rfl : args = #[v0, v1] := by cases args; simp_all
  obtain ⟨rfl, rfl⟩ := trodVars_none hV
  obtain ⟨s0, n0, c0, l0, rfl, w0⟩ := open_links (hval 0 22 v0 rfl rfl) h0
  obtain ⟨s1, n1, c1, l1, rfl, w1⟩ := open_links (hval 1 22 v1 rfl rfl) h1
  have hK := of_laid hL
  clear hA0 hval0
  refine (parts_walk s0 n0 c0 l0 s1 n1 c1 l1 W (Lib.hid w0) (Lib.hid w1) (Lib.hid hK)).mono fun e W' ⟨he, hb⟩ => ?_
  subst he
  exact ⟨_, rfl, law_post laid_out readable rfl rfl Tryd.underlying4 hW' rfl rfl rfl hb⟩

theorem over : Rows.chainPartsRow.holds Tryd.pinned (OpenSpec.ofChange Rows.chainPartsSpec) :=
  OpenClaim.holds_of_wide 7 Tryd.f7 rfl rfl rfl rfl rfl rfl rfl ⟨rfl, rfl, rfl, rfl, rfl⟩ rfl rfl rfl rfl rfl (by kernel_rfl) Tryd.func7 (by kernel_rfl)
    (of_decide_eq_true (by kernel_rfl)) (by unfold Func.isWrapper; first | (rw [if_pos (by decide +kernel)]; kernel_rfl) | (rw [if_neg (by decide +kernel)]; exact ⟨rfl, rfl⟩))
    (fun os started H enc _ => lifted os started H enc)

/-- the statement: the tied card -/
theorem proved : Rows.ChainPartsCardSaid :=
  Claim7.holds_tied_plain_at .later [] [.data] true (true, "40284c324d3d6a13069895ce4ab99fdefbc2f5f94b227550a7a899fa5adc4483") false
    over (fun _ h => by cases h) (by kernel_rfl) (fun _ h => by cases h) chainParts_row_tie rfl ⟨rfl, rfl⟩ (by kernel_rfl) rfl
    (fun f fn hf hfn => by
      obtain rfl : f = 7 := Option.some.inj ((show Tryd.prog.funcNamed "franking/frankinglaw08.ChainParts" = some 7 by kernel_rfl).symm.trans hf) |>.symm
      obtain rfl : fn = Tryd.f7 := (Option.some.inj (Tryd.func7.symm.trans hfn)).symm
      exact ⟨by kernel_rfl, fun j t ht => by
        rw [Tryd.params7] at ht
        have hm : t ∈ [22, 22] := by simpa using Array.mem_of_getElem? ht
        have hall : ([22, 22].all fun u => !Tryd.prog.wantsStandIn u) = true := by kernel_rfl
        exact (show Tryd.prog.wantsStandIn t = false by simpa using List.all_eq_true.1 hall t hm)⟩)
    (by kernel_rfl)
end chainParts
end Go.Proofs.YtllcgehfmkmcdaaDoor
