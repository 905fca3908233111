/- The path of an element in the reference: frankingref02.path, Path. -/
import Derived.Test.YtmheblpgofeafaaDoorRefTree
import Derived.Test.YtmheblpgofeafaaDoorDigAppX
namespace Go.Proofs.YtmheblpgofeafaaDoor
open Go.RowKit
set_option linter.unusedVariables false
set_option linter.unusedSimpArgs false

set_option maxRecDepth 100000 in
set_option maxHeartbeats 2000000 in
theorem rpath_low (p : Option Addr) (n cap : Nat) (a : Int) (w : World) (h : a < 0) :
    Calls Tryd.prog 22 #[.slice p n cap, .int .i64 a] w fun e w' => e = .returned (.tuple #[.slice none 0 0, .int .i64 1]) ∧ w' = w := by
  go_enter Tryd.func22, Tryd.ntmps22
  go_wp2_with fail
  go_ret2
  exact ⟨rfl, rfl⟩
set_option maxRecDepth 100000 in
set_option maxHeartbeats 2000000 in
theorem rpath_high (p : Option Addr) (n cap : Nat) (a : Int) (w : World) (h : ¬ a < 0) (h2 : (n : Int) ≤ a) :
    Calls Tryd.prog 22 #[.slice p n cap, .int .i64 a] w fun e w' => e = .returned (.tuple #[.slice none 0 0, .int .i64 1]) ∧ w' = w := by
  go_enter Tryd.func22, Tryd.ntmps22
  go_wp2_with fail
  go_ret2
  exact ⟨rfl, rfl⟩
set_option maxRecDepth 100000 in
set_option maxHeartbeats 2000000 in
theorem rpath_one (p : Option Addr) (cap : Nat) (at' : Int) (w : World) : Calls Tryd.prog 47 #[.slice p 1 cap, .int .i64 at'] w fun e w' => IsOwn w 0 [] e w' := by
  go_enter Tryd.func47, Tryd.ntmps47
  go_wp2_with fail
  go_ret
  exact ⟨_, rfl, ownR_emp w _ (Nat.le_refl _), bel_alloc1 w _⟩
set_option maxRecDepth 100000 in
set_option maxHeartbeats 4000000 in
theorem rpath_left (at' n k c b off cap : Nat) (ps ts : List Int) (w : World) (hn : 1 < n) (hn2 : n ≤ 1099511627776) (hc : n ≤ cap) (hm : cap ≤ 9223372036854775807) (hkn : Hid (k = spN n)) (hk0 : 0 < k) (hk1 : k < n) (hak : at' < k) (hcn : c ≤ 1000) (hts : Hid (ts.length = 32))
    (IA : ∀ u : World, Below w.heap.size w u → Calls Tryd.prog 47 #[.slice (some ⟨b, off, none⟩) k cap, .int .i64 at'] u fun e w' => IsOwn u c ps e w')
    (IB : ∀ u : World, Below w.heap.size w u → Calls Tryd.prog 20 #[.slice (some ⟨b, off + 32 * k, none⟩) (n - k : Nat) (cap - k : Nat)] u fun e w' => e = .returned (.agg (bv ts).toArray) ∧ Below u.heap.size u w') :
    Calls Tryd.prog 47 #[.slice (some ⟨b, off, none⟩) n cap, .int .i64 at'] w fun e w' => IsOwn w (c + 1) (ps ++ ts) e w' := by
  have t1 : ¬ ((n : Int) = 1) := by omega
  go_enter Tryd.func47, Tryd.ntmps47
  go_wp2_with fail
  refine (rhalf_any n w hn (by omega)).mono ?_; rintro e w' ⟨rfl, rfl⟩
  rw [← hkn.out]
  go_upto_region 5 with fail
  have s0 : (k : Int) ≤ (cap : Int) := by omega
  have s1 : (k : Int) ≤ (n : Int) := by omega
  have s2 : ¬ (cap = k) := by omega
  refine wp_region_any (by kernel_rfl) ?_
  change wpAny _ _ _ _ _ _ _ (World.drew _)
  generalize hWD : w'.drew = WD
  have E0 : Hid (Below w'.heap.size w' WD) := Lib.hid (by rw [← hWD]; exact (Below.refl _ _).drew)
  clear hWD
  refine wpAny_take (i := 0) (v := .slice (some ⟨b, off, none⟩) n cap) rfl (by kernel_rfl) (by kernel_rfl) (by kernel_rfl) (fun _ _ _ h => h) (Or.inl ⟨by rfl, ?y0⟩) ?_
  case y0 => intro u; rfl
  refine wpAny_take (i := 1) (v := .int .i64 k) rfl (by kernel_rfl) (by kernel_rfl) (by kernel_rfl) (fun _ _ _ h => h) (Or.inl ⟨by rfl, ?y1⟩) ?_
  case y1 => intro u; rfl
  refine wpAny_take (i := 2) (v := .slice (some ⟨b, off, none⟩) k cap) rfl (by kernel_rfl) (by kernel_rfl) (by kernel_rfl) (fun _ _ _ h => h) (Or.inl ⟨by rfl, ?y2⟩) ?_
  case y2 => intro u; simp only [Act.put]; go_simp
  refine wpAny_take (i := 3) (v := .int .i64 at') rfl (by kernel_rfl) (by kernel_rfl) (by kernel_rfl) (fun _ _ _ h => h) (Or.inl ⟨by rfl, ?y3⟩) ?_
  case y3 => intro u; rfl
  refine wpAny_take (i := 5) (v := .slice (some ⟨b, off, none⟩) n cap) rfl (by kernel_rfl) (by kernel_rfl) (by kernel_rfl) (fun _ _ _ h => h) (Or.inl ⟨by rfl, ?y5⟩) ?_
  case y5 => intro u; rfl
  refine wpAny_take (i := 6) (v := .int .i64 k) rfl (by kernel_rfl) (by kernel_rfl) (by kernel_rfl) (fun _ _ _ h => h) (Or.inl ⟨by rfl, ?y6⟩) ?_
  case y6 => intro u; rfl
  refine wpAny_take (i := 7) (v := .slice (some ⟨b, off + 32 * k, none⟩) (n - k : Nat) (cap - k : Nat)) rfl (by kernel_rfl) (by kernel_rfl) (by kernel_rfl) (fun _ _ _ h => h) (Or.inl ⟨by rfl, ?y7⟩) ?_
  case y7 => intro u; simp only [Act.put]; go_simp
  refine any_prefix [4, 8] 3 rfl (by decide) (by kernel_rfl) ?_
  simp only [Act.put, List.filterMap_cons, List.filterMap_nil, List.getElem?_cons_succ, List.getElem?_cons_zero]
  go_wp2_with fail
  refine (IA _ E0.out).mono ?_
  rintro e w1 ⟨v1, rfl, ho1, hb1⟩
  have B1 := Lib.hid (E0.out.trans (hb1.mono E0.out.size))
  have O1 := Lib.hid (ownR_base ho1 E0.out.size)
  clear ho1 hb1 E0
  go_wp2_with fail
  refine (IB _ B1.out).mono ?_
  rintro e w2 ⟨rfl, hb2⟩
  have B2 := Lib.hid (B1.out.trans (hb2.mono B1.out.size))
  have O2 := Lib.hid (ownR_below O1.out hb2)
  clear hb2 O1 B1
  go_wp2_with fail
  change wpAny _ _ _ _ 3 _ _ _
  refine any_order [9, 10, 11] rfl (by decide) (by kernel_rfl) ?_
  simp only [Act.put, List.filterMap_cons, List.filterMap_nil, List.getElem?_cons_succ, List.getElem?_cons_zero]
  refine list_build1 (by rfl) (.tmp 24) rfl (bv ts) rfl (by rw [bv_len]; exact hts.out) ?_
  generalize hA : World.alloc _ _ = w3
  have B3 := Lib.hid (show Below w'.heap.size w' w3 by rw [← hA]; exact B2.out.alloc B2.out.size _)
  have O3 := Lib.hid (show OwnR w3 w'.heap.size v1 c ps by rw [← hA]; exact ownR_below O2.out (bel_alloc1 _ _))
  have T3 := Lib.hid (show Dg w3 w2.heap.size ts by rw [← hA]; exact Dg.box w2 hts.out)
  clear hA B2 O2
  (try simp only [Act.put])
  refine list_appR (by rfl) (.tmp 20) (.tmp 25) rfl w'.heap.size v1 c ps rfl O3.out w2.heap.size 0 1 1 ts rfl (by rw [hts.out]) T3.out.bytes (by omega) B3.out.size ?_
  intro v4 w4 ho4 hb4
  have R := Lib.hid (show IsOwn w' (c + 1) (ps ++ ts) (.returned v4) w4 from ⟨_, rfl, ho4, B3.out.trans hb4⟩)
  clear ho4 hb4
  (try simp only [Act.put])
  go_wp2_with fail
  go_ret
  exact R.out
set_option maxRecDepth 100000 in
set_option maxHeartbeats 4000000 in
theorem rpath_right (at' n k c b off cap : Nat) (ps ts : List Int) (w : World) (hn : 1 < n) (hn2 : n ≤ 1099511627776) (hc : n ≤ cap) (hm : cap ≤ 9223372036854775807) (hkn : Hid (k = spN n)) (hk0 : 0 < k) (hk1 : k < n) (hak : k ≤ at') (han : at' < n) (hcn : c ≤ 1000) (hts : Hid (ts.length = 32))
    (IA : ∀ u : World, Below w.heap.size w u → Calls Tryd.prog 47 #[.slice (some ⟨b, off + 32 * k, none⟩) (n - k : Nat) (cap - k : Nat), .int .i64 (at' - k : Nat)] u fun e w' => IsOwn u c ps e w')
    (IB : ∀ u : World, Below w.heap.size w u → Calls Tryd.prog 20 #[.slice (some ⟨b, off, none⟩) k cap] u fun e w' => e = .returned (.agg (bv ts).toArray) ∧ Below u.heap.size u w') :
    Calls Tryd.prog 47 #[.slice (some ⟨b, off, none⟩) n cap, .int .i64 at'] w fun e w' => IsOwn w (c + 1) (ps ++ ts) e w' := by
  have t1 : ¬ ((n : Int) = 1) := by omega
  go_enter Tryd.func47, Tryd.ntmps47
  go_wp2_with fail
  refine (rhalf_any n w hn (by omega)).mono ?_; rintro e w' ⟨rfl, rfl⟩
  rw [← hkn.out]
  go_upto_region 6 with fail
  have s0 : (k : Int) ≤ (cap : Int) := by omega
  have s1 : (k : Int) ≤ (n : Int) := by omega
  have s2 : ¬ (cap = k) := by omega
  have wA : IntKind.i64.wrap ((at' : Int) - (k : Int)) = ((at' - k : Nat) : Int) := by rw [IntKind.wrap_i64]; omega
  refine wp_region_any (by kernel_rfl) ?_
  change wpAny _ _ _ _ _ _ _ (World.drew _)
  generalize hWD : w'.drew = WD
  have E0 : Hid (Below w'.heap.size w' WD) := Lib.hid (by rw [← hWD]; exact (Below.refl _ _).drew)
  clear hWD
  refine wpAny_take (i := 0) (v := .slice (some ⟨b, off, none⟩) n cap) rfl (by kernel_rfl) (by kernel_rfl) (by kernel_rfl) (fun _ _ _ h => h) (Or.inl ⟨by rfl, ?y0⟩) ?_
  case y0 => intro u; rfl
  refine wpAny_take (i := 1) (v := .int .i64 k) rfl (by kernel_rfl) (by kernel_rfl) (by kernel_rfl) (fun _ _ _ h => h) (Or.inl ⟨by rfl, ?y1⟩) ?_
  case y1 => intro u; rfl
  refine wpAny_take (i := 2) (v := .slice (some ⟨b, off + 32 * k, none⟩) (n - k : Nat) (cap - k : Nat)) rfl (by kernel_rfl) (by kernel_rfl) (by kernel_rfl) (fun _ _ _ h => h) (Or.inl ⟨by rfl, ?y2⟩) ?_
  case y2 => intro u; simp only [Act.put]; go_simp
  refine wpAny_take (i := 3) (v := .int .i64 at') rfl (by kernel_rfl) (by kernel_rfl) (by kernel_rfl) (fun _ _ _ h => h) (Or.inl ⟨by rfl, ?y3⟩) ?_
  case y3 => intro u; rfl
  refine wpAny_take (i := 4) (v := .int .i64 k) rfl (by kernel_rfl) (by kernel_rfl) (by kernel_rfl) (fun _ _ _ h => h) (Or.inl ⟨by rfl, ?y4⟩) ?_
  case y4 => intro u; rfl
  refine wpAny_take (i := 5) (v := .int .i64 (at' - k : Nat)) rfl (by kernel_rfl) (by kernel_rfl) (by kernel_rfl) (fun _ _ _ h => h) (Or.inl ⟨by rfl, ?y5⟩) ?_
  case y5 => intro u; simp only [Act.put]; go_simp
  refine wpAny_take (i := 7) (v := .slice (some ⟨b, off, none⟩) n cap) rfl (by kernel_rfl) (by kernel_rfl) (by kernel_rfl) (fun _ _ _ h => h) (Or.inl ⟨by rfl, ?y7⟩) ?_
  case y7 => intro u; rfl
  refine wpAny_take (i := 8) (v := .int .i64 k) rfl (by kernel_rfl) (by kernel_rfl) (by kernel_rfl) (fun _ _ _ h => h) (Or.inl ⟨by rfl, ?y8⟩) ?_
  case y8 => intro u; rfl
  refine wpAny_take (i := 9) (v := .slice (some ⟨b, off, none⟩) k cap) rfl (by kernel_rfl) (by kernel_rfl) (by kernel_rfl) (fun _ _ _ h => h) (Or.inl ⟨by rfl, ?y9⟩) ?_
  case y9 => intro u; simp only [Act.put]; go_simp
  refine any_prefix [6, 10] 3 rfl (by decide) (by kernel_rfl) ?_
  simp only [Act.put, List.filterMap_cons, List.filterMap_nil, List.getElem?_cons_succ, List.getElem?_cons_zero]
  go_wp2_with fail
  refine (IA _ E0.out).mono ?_
  rintro e w1 ⟨v1, rfl, ho1, hb1⟩
  have B1 := Lib.hid (E0.out.trans (hb1.mono E0.out.size))
  have O1 := Lib.hid (ownR_base ho1 E0.out.size)
  clear ho1 hb1 E0
  go_wp2_with fail
  refine (IB _ B1.out).mono ?_
  rintro e w2 ⟨rfl, hb2⟩
  have B2 := Lib.hid (B1.out.trans (hb2.mono B1.out.size))
  have O2 := Lib.hid (ownR_below O1.out hb2)
  clear hb2 O1 B1
  go_wp2_with fail
  change wpAny _ _ _ _ 3 _ _ _
  refine any_order [11, 12, 13] rfl (by decide) (by kernel_rfl) ?_
  simp only [Act.put, List.filterMap_cons, List.filterMap_nil, List.getElem?_cons_succ, List.getElem?_cons_zero]
  refine list_build1 (by rfl) (.tmp 37) rfl (bv ts) rfl (by rw [bv_len]; exact hts.out) ?_
  generalize hA : World.alloc _ _ = w3
  have B3 := Lib.hid (show Below w'.heap.size w' w3 by rw [← hA]; exact B2.out.alloc B2.out.size _)
  have O3 := Lib.hid (show OwnR w3 w'.heap.size v1 c ps by rw [← hA]; exact ownR_below O2.out (bel_alloc1 _ _))
  have T3 := Lib.hid (show Dg w3 w2.heap.size ts by rw [← hA]; exact Dg.box w2 hts.out)
  clear hA B2 O2
  (try simp only [Act.put])
  refine list_appR (by rfl) (.tmp 33) (.tmp 38) rfl w'.heap.size v1 c ps rfl O3.out w2.heap.size 0 1 1 ts rfl (by rw [hts.out]) T3.out.bytes (by omega) B3.out.size ?_
  intro v4 w4 ho4 hb4
  have R := Lib.hid (show IsOwn w' (c + 1) (ps ++ ts) (.returned v4) w4 from ⟨_, rfl, ho4, B3.out.trans hb4⟩)
  clear ho4 hb4
  (try simp only [Act.put])
  go_wp2_with fail
  go_ret
  exact R.out
theorem rpath_any (n : Nat) : ∀ (at' c : Nat) (fs ps : List Int), IsPath at' n fs c ps → ∀ (p : Option Addr) (cap : Nat) (w : World), Hid (SrcD w p n cap fs) → Hid (∀ z ∈ fs, 0 ≤ z ∧ z ≤ 255) → n ≤ 1000 → Hid (KeysAt w) →
    Calls Tryd.prog 47 #[.slice p n cap, .int .i64 at'] w fun e w' => IsOwn w c ps e w' := by
  have hml : maxLen ≤ 9223372036854775807 := by decide
  induction n using Nat.strongRecOn with
  | _ n ih =>
    intro at' c fs ps ht p cap w hz hr hn hk
    obtain ⟨hl, hc, hm, hp⟩ := hz.out
    cases ht with
    | done => exact rpath_one p cap _ w
    | left _ _ k c _ ps ts h1 hk2 hak hp2 ht =>
      obtain ⟨h2, _⟩ | ⟨b, off, rfl, hb, hz1⟩ := hp
      · omega
      · have k0 : 0 < k := by rw [hk2]; exact spN_pos n
        have k1 : k < n := by rw [hk2]; exact spN_lt h1
        refine rpath_left at' n k c b off cap ps ts w h1 (by omega) hc (by omega) (Lib.hid hk2) k0 k1 hak (by have := hp2.le; omega) (Lib.hid ht.len) ?_ ?_
        · intro u hu
          exact ih k k1 at' c _ ps hp2 _ _ u (Lib.hid ⟨by rw [List.length_take]; omega, by omega, hm, .inr ⟨b, off, rfl, Nat.lt_of_lt_of_le hb hu.size, (hz1.below hu hb).take _⟩⟩) (Lib.hid fun z hz => hr.out z (List.mem_of_mem_take hz)) (by omega) (Lib.hid (hk.out.below hu))
        · intro u hu
          exact rtree_any (n - k) _ ts ht _ _ u (Lib.hid ⟨by rw [List.length_drop]; omega, by omega, by omega, .inr ⟨b, off + 32 * k, rfl, Nat.lt_of_lt_of_le hb hu.size, (hz1.below hu hb).drop _⟩⟩) (Lib.hid fun z hz => hr.out z (List.mem_of_mem_drop hz)) (by omega) (Lib.hid (hk.out.below hu))
    | right _ _ k c _ ps ts h1 hk2 hak han hp2 ht =>
      obtain ⟨h2, _⟩ | ⟨b, off, rfl, hb, hz1⟩ := hp
      · omega
      · have k0 : 0 < k := by rw [hk2]; exact spN_pos n
        have k1 : k < n := by rw [hk2]; exact spN_lt h1
        refine rpath_right at' n k c b off cap ps ts w h1 (by omega) hc (by omega) (Lib.hid hk2) k0 k1 hak han (by have := hp2.le; omega) (Lib.hid ht.len) ?_ ?_
        · intro u hu
          exact ih (n - k) (by omega) (at' - k) c _ ps hp2 _ _ u (Lib.hid ⟨by rw [List.length_drop]; omega, by omega, by omega, .inr ⟨b, off + 32 * k, rfl, Nat.lt_of_lt_of_le hb hu.size, (hz1.below hu hb).drop _⟩⟩) (Lib.hid fun z hz => hr.out z (List.mem_of_mem_drop hz)) (by omega) (Lib.hid (hk.out.below hu))
        · intro u hu
          exact rtree_any k _ ts ht _ _ u (Lib.hid ⟨by rw [List.length_take]; omega, by omega, hm, .inr ⟨b, off, rfl, Nat.lt_of_lt_of_le hb hu.size, (hz1.below hu hb).take _⟩⟩) (Lib.hid fun z hz => hr.out z (List.mem_of_mem_take hz)) (by omega) (Lib.hid (hk.out.below hu))
set_option maxRecDepth 100000 in
set_option maxHeartbeats 2000000 in
theorem rpathTop_any (at' n c : Nat) (fs ps : List Int) (ht : IsPath at' n fs c ps) (ha : at' < n) (p : Option Addr) (cap : Nat) (w : World) (hz : Hid (SrcD w p n cap fs)) (hr : Hid (∀ z ∈ fs, 0 ≤ z ∧ z ≤ 255)) (hn : n ≤ 1000) (hk : Hid (KeysAt w)) :
    Calls Tryd.prog 22 #[.slice p n cap, .int .i64 at'] w fun e w' => IsOwn2 w c ps e w' := by
  have HT := Lib.hid ht
  clear ht
  go_enter Tryd.func22, Tryd.ntmps22
  go_wp2_with fail
  refine (rpath_any n at' c fs ps HT.out p cap w hz hr hn hk).mono ?_
  rintro e w' ⟨v, rfl, h1, h2⟩
  have R := Lib.hid (show IsOwn2 w c ps (.returned (.tuple #[v, .int .i64 0])) w' from ⟨v, rfl, h1, h2⟩)
  clear h1 h2
  go_wp2_with fail
  go_ret2
  exact R.out
end Go.Proofs.YtmheblpgofeafaaDoor
