/- When two lists' texts clash; texts tell links apart. -/
import Derived.Test.YtllcgehfmkmcdaaDoorChnRTx
import Derived.Test.YtllcgehfmkmcdaaDoorChnPrt
namespace Go.Proofs.YtllcgehfmkmcdaaDoor
open Go.RowKit
set_option linter.unusedVariables false
set_option linter.unusedSimpArgs false

set_option maxRecDepth 100000 in
set_option maxHeartbeats 4000000 in
theorem clash_same (p q : Option Addr) (n c d k : Nat) (ls ms : List Lk) (w : World) (hs : Hid (LksV w p n c ls)) (hz : Hid (LksV w q n d ms)) (hkey : Hid (KeysAt w)) (sa : Hid (Small ls)) (sb : Hid (Small ms)) (hn : n = k + 1) (hT : Hid (lkT (ls.getD k lk0) = lkT (ms.getD k lk0))) :
    Calls Tryd.prog 17 #[.slice p n c, .slice q n d] w fun e w' => e = .returned (.bool false) ∧ Below w.heap.size w w' := by
  subst hn
  have hl1 := hs.out.len
  have hl2 := hz.out.len
  have hn40 : k + 1 ≤ 40 := by have := sa.out.n; omega
  have sx := Lib.hid (hs.out.sm sa.out (i := k) (by omega))
  have sy := Lib.hid (hz.out.sm sb.out (i := k) (by omega))
  obtain ⟨s1, hs1⟩ : ∃ s, strB (lkT (ls.getD k lk0)) = s := ⟨_, rfl⟩
  obtain ⟨s2, hs2⟩ : ∃ s, strB (lkT (ms.getD k lk0)) = s := ⟨_, rfl⟩
  have S1 := Lib.hid hs1
  have S2 := Lib.hid hs2
  clear hs1 hs2 hl1 hl2
  go_enter Tryd.func17, Tryd.ntmps17
  go_upto_region 2 with (go_at_call 32; with_reducible refine (rtext_link p (k + 1) c k ls w hs rfl (by omega) sx).mono ?_; rintro e w1 ⟨v1, rfl, ho, hb⟩; have O1 := Lib.hid ho; have B1 := Lib.hid hb; clear ho hb)
  go_upto_region 3 with (go_at_call 32; with_reducible refine (rtext_link q (k + 1) d k ms w1 (Lib.hid (hz.out.below B1.out)) rfl (by omega) sy).mono ?_; rintro e w2 ⟨v2, rfl, ho, hb⟩; have O2 := Lib.hid ho; have B2 := Lib.hid (bel_trans B1.out hb); have P1 := Lib.hid (own8_below O1.out hb); clear ho hb)
  obtain ⟨p1, c1, hv1, hz1⟩ := own8_tag P1.out
  obtain ⟨p2, c2, hv2, hz2⟩ := own8_tag O2.out
  subst hv1
  subst hv2
  have CX := conv_srcW hz1
  have CY := conv_srcW hz2
  rw [S1.out] at CX
  rw [S2.out] at CY
  clear hz1 hz2 O1 O2 P1
  generalize (lkT (ls.getD k lk0)).length = m1 at CX ⊢
  generalize (lkT (ms.getD k lk0)).length = m2 at CY ⊢
  have hss : s2 = s1 := by rw [← S1.out, ← S2.out, hT.out]
  subst hss
  go_wp2_with fail
  go_ret
  exact ⟨rfl, B2.out⟩
set_option maxRecDepth 100000 in
set_option maxHeartbeats 4000000 in
theorem clash_hit (p q : Option Addr) (n c d k : Nat) (ls ms : List Lk) (w : World) (hs : Hid (LksV w p n c ls)) (hz : Hid (LksV w q n d ms)) (hkey : Hid (KeysAt w)) (sa : Hid (Small ls)) (sb : Hid (Small ms)) (hn : n = k + 1) (hT : Hid (¬ lkT (ls.getD k lk0) = lkT (ms.getD k lk0))) (da : List Int) (ha : Hid (IsHead ls da)) (hb : Hid (IsHead ms da)) :
    Calls Tryd.prog 17 #[.slice p n c, .slice q n d] w fun e w' => e = .returned (.bool true) ∧ Below w.heap.size w w' := by
  subst hn
  have hl1 := hs.out.len
  have hl2 := hz.out.len
  have hn40 : k + 1 ≤ 40 := by have := sa.out.n; omega
  have sx := Lib.hid (hs.out.sm sa.out (i := k) (by omega))
  have sy := Lib.hid (hz.out.sm sb.out (i := k) (by omega))
  obtain ⟨s1, hs1⟩ : ∃ s, strB (lkT (ls.getD k lk0)) = s := ⟨_, rfl⟩
  obtain ⟨s2, hs2⟩ : ∃ s, strB (lkT (ms.getD k lk0)) = s := ⟨_, rfl⟩
  have S1 := Lib.hid hs1
  have S2 := Lib.hid hs2
  clear hs1 hs2 hl1 hl2
  go_enter Tryd.func17, Tryd.ntmps17
  go_upto_region 2 with (go_at_call 32; with_reducible refine (rtext_link p (k + 1) c k ls w hs rfl (by omega) sx).mono ?_; rintro e w1 ⟨v1, rfl, ho, hb⟩; have O1 := Lib.hid ho; have B1 := Lib.hid hb; clear ho hb)
  go_upto_region 3 with (go_at_call 32; with_reducible refine (rtext_link q (k + 1) d k ms w1 (Lib.hid (hz.out.below B1.out)) rfl (by omega) sy).mono ?_; rintro e w2 ⟨v2, rfl, ho, hb⟩; have O2 := Lib.hid ho; have B2 := Lib.hid (bel_trans B1.out hb); have P1 := Lib.hid (own8_below O1.out hb); clear ho hb)
  obtain ⟨p1, c1, hv1, hz1⟩ := own8_tag P1.out
  obtain ⟨p2, c2, hv2, hz2⟩ := own8_tag O2.out
  subst hv1
  subst hv2
  have CX := conv_srcW hz1
  have CY := conv_srcW hz2
  rw [S1.out] at CX
  rw [S2.out] at CY
  clear hz1 hz2 O1 O2 P1
  generalize (lkT (ls.getD k lk0)).length = m1 at CX ⊢
  generalize (lkT (ms.getD k lk0)).length = m2 at CY ⊢
  have hne : s1 ≠ s2 := by rw [← S1.out, ← S2.out]; exact strB_ne (lkT_rng sx.out) (lkT_rng sy.out) hT.out
  have hq1 : decide (s1 = s2) = false := decide_eq_false hne
  have hq2 := ba_ne hne
  have EQ : ∀ u, (Op.equalIn 10000 35 (.agg (bv da).toArray) (.agg (bv da).toArray)).run Tryd.prog u = .ok true u := fun u => by rw [eqDig_any da da ha.out.tg.len ha.out.tg.len u, decide_eq_true rfl]
  go_wp2_with (first
    | (go_at_call 15; with_reducible refine (chead_is p (k + 1) c ls w2 (Lib.hid (hs.out.below B2.out)) (Lib.hid (hkey.out.below B2.out)) sa da ha).mono ?_; rintro e w3 ⟨rfl, hb⟩; have B3 := Lib.hid (bel_trans B2.out hb); clear hb)
    | (go_at_call 15; with_reducible refine (chead_is q (k + 1) d ms w3 (Lib.hid (hz.out.below B3.out)) (Lib.hid (hkey.out.below B3.out)) sb da hb).mono ?_; rintro e w4 ⟨rfl, hbl⟩; have B4 := Lib.hid (bel_trans B3.out hbl); clear hbl))
  go_ret
  exact ⟨rfl, B4.out⟩
set_option maxRecDepth 100000 in
set_option maxHeartbeats 4000000 in
theorem clash_miss (p q : Option Addr) (n c d k : Nat) (ls ms : List Lk) (w : World) (hs : Hid (LksV w p n c ls)) (hz : Hid (LksV w q n d ms)) (hkey : Hid (KeysAt w)) (sa : Hid (Small ls)) (sb : Hid (Small ms)) (hn : n = k + 1) (hT : Hid (¬ lkT (ls.getD k lk0) = lkT (ms.getD k lk0))) (da db : List Int) (ha : Hid (IsHead ls da)) (hb : Hid (IsHead ms db)) (hne0 : Hid (¬ da = db)) :
    Calls Tryd.prog 17 #[.slice p n c, .slice q n d] w fun e w' => e = .returned (.bool false) ∧ Below w.heap.size w w' := by
  subst hn
  have hl1 := hs.out.len
  have hl2 := hz.out.len
  have hn40 : k + 1 ≤ 40 := by have := sa.out.n; omega
  have sx := Lib.hid (hs.out.sm sa.out (i := k) (by omega))
  have sy := Lib.hid (hz.out.sm sb.out (i := k) (by omega))
  obtain ⟨s1, hs1⟩ : ∃ s, strB (lkT (ls.getD k lk0)) = s := ⟨_, rfl⟩
  obtain ⟨s2, hs2⟩ : ∃ s, strB (lkT (ms.getD k lk0)) = s := ⟨_, rfl⟩
  have S1 := Lib.hid hs1
  have S2 := Lib.hid hs2
  clear hs1 hs2 hl1 hl2
  go_enter Tryd.func17, Tryd.ntmps17
  go_upto_region 2 with (go_at_call 32; with_reducible refine (rtext_link p (k + 1) c k ls w hs rfl (by omega) sx).mono ?_; rintro e w1 ⟨v1, rfl, ho, hb⟩; have O1 := Lib.hid ho; have B1 := Lib.hid hb; clear ho hb)
  go_upto_region 3 with (go_at_call 32; with_reducible refine (rtext_link q (k + 1) d k ms w1 (Lib.hid (hz.out.below B1.out)) rfl (by omega) sy).mono ?_; rintro e w2 ⟨v2, rfl, ho, hb⟩; have O2 := Lib.hid ho; have B2 := Lib.hid (bel_trans B1.out hb); have P1 := Lib.hid (own8_below O1.out hb); clear ho hb)
  obtain ⟨p1, c1, hv1, hz1⟩ := own8_tag P1.out
  obtain ⟨p2, c2, hv2, hz2⟩ := own8_tag O2.out
  subst hv1
  subst hv2
  have CX := conv_srcW hz1
  have CY := conv_srcW hz2
  rw [S1.out] at CX
  rw [S2.out] at CY
  clear hz1 hz2 O1 O2 P1
  generalize (lkT (ls.getD k lk0)).length = m1 at CX ⊢
  generalize (lkT (ms.getD k lk0)).length = m2 at CY ⊢
  have hne : s1 ≠ s2 := by rw [← S1.out, ← S2.out]; exact strB_ne (lkT_rng sx.out) (lkT_rng sy.out) hT.out
  have hq1 : decide (s1 = s2) = false := decide_eq_false hne
  have hq2 := ba_ne hne
  have EQ : ∀ u, (Op.equalIn 10000 35 (.agg (bv da).toArray) (.agg (bv db).toArray)).run Tryd.prog u = .ok false u := fun u => by rw [eqDig_any da db ha.out.tg.len hb.out.tg.len u, decide_eq_false hne0.out]
  go_wp2_with (first
    | (go_at_call 15; with_reducible refine (chead_is p (k + 1) c ls w2 (Lib.hid (hs.out.below B2.out)) (Lib.hid (hkey.out.below B2.out)) sa da ha).mono ?_; rintro e w3 ⟨rfl, hb⟩; have B3 := Lib.hid (bel_trans B2.out hb); clear hb)
    | (go_at_call 15; with_reducible refine (chead_is q (k + 1) d ms w3 (Lib.hid (hz.out.below B3.out)) (Lib.hid (hkey.out.below B3.out)) sb db hb).mono ?_; rintro e w4 ⟨rfl, hbl⟩; have B4 := Lib.hid (bel_trans B3.out hbl); clear hbl))
  go_ret
  exact ⟨rfl, B4.out⟩
theorem numL_len2 {n : Nat} (h : n < 16384) : (numL n).length = if n < 128 then 1 else 2 := by
  by_cases h1 : n < 128
  · rw [numL_lt h1, if_pos h1]; rfl
  · rw [numL_ge h1, if_neg h1, numL_lt (by omega)]; rfl
theorem text_inj {xs ys : List Int} (hx : xs.length ≤ 400) (hy : ys.length ≤ 400) (h : numL xs.length ++ xs = numL ys.length ++ ys) : xs = ys := by
  have hl := congrArg List.length h
  rw [List.length_append, List.length_append, numL_len2 (by omega), numL_len2 (by omega)] at hl
  have he : xs.length = ys.length := by
    by_cases h1 : xs.length < 128 <;> by_cases h2 : ys.length < 128 <;> simp [h1, h2] at hl <;> omega
  rw [he] at h
  exact List.append_cancel_left h
theorem zig_inj {a b : Int} (h : zig a = zig b) : a = b := by
  unfold zig at h
  split at h <;> split at h <;> omega
/-- the text of a link of a chain says the link -/
theorem lkT_inj {x y : Lk} (hx : x.prev.length = 32) (hy : y.prev.length = 32) (nx : 0 ≤ x.node ∧ x.node < 24) (ny : 0 ≤ y.node ∧ y.node < 24) (ox : 0 ≤ x.no ∧ x.no < 64) (oy : 0 ≤ y.no ∧ y.no < 64) (bx : x.bs.length ≤ 400) (by' : y.bs.length ≤ 400) (h : lkT x = lkT y) : x.same y := by
  have z1 : zig x.node < 128 := by unfold zig; rw [if_pos nx.1]; omega
  have z2 : zig y.node < 128 := by unfold zig; rw [if_pos ny.1]; omega
  have z3 : zig x.no < 128 := by unfold zig; rw [if_pos ox.1]; omega
  have z4 : zig y.no < 128 := by unfold zig; rw [if_pos oy.1]; omega
  unfold lkT lkA encL at h
  simp only [List.map_cons, List.map_nil, Atom.enc, List.flatten_cons, List.flatten_nil, List.length_cons, List.length_nil, hx, hy, List.append_nil] at h
  rw [numL_lt z1, numL_lt z2, numL_lt z3, numL_lt z4, numL_lt (by decide), numL_lt (by decide)] at h
  simp only [List.cons_append, List.nil_append, List.cons.injEq, true_and] at h
  obtain ⟨h1, h2, h3⟩ := h
  have e1 : zig x.node = zig y.node := by exact_mod_cast h1
  have e2 : zig x.no = zig y.no := by exact_mod_cast h2
  obtain ⟨h4, h5⟩ := List.append_inj h3 (by rw [hx, hy])
  simp only [List.cons.injEq, true_and] at h5
  exact ⟨zig_inj e1, zig_inj e2, h4, text_inj bx by' h5⟩
end Go.Proofs.YtllcgehfmkmcdaaDoor
