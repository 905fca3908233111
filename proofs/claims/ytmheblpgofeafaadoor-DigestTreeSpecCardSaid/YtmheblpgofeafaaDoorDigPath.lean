/- The path of an element: digest.pathOf, digest.Path. -/
import Derived.Test.YtmheblpgofeafaaDoorDigSane
import Derived.Test.YtmheblpgofeafaaDoorDigSt
import Derived.Test.YtmheblpgofeafaaDoorDigDet
import Derived.Test.YtmheblpgofeafaaDoorRegU
namespace Go.Proofs.YtmheblpgofeafaaDoor
open Go.RowKit
set_option linter.unusedVariables false
set_option linter.unusedSimpArgs false

/-- the path of the element at' of a list of n digests: c digests, one behind the other -/
inductive IsPath : Nat → Nat → List Int → Nat → List Int → Prop
  | done (fs : List Int) : IsPath 0 1 fs 0 []
  | left (at' n k c : Nat) (fs ps ts : List Int) : 1 < n → k = spN n → at' < k → IsPath at' k (fs.take (32 * k)) c ps → IsTree (n - k) (fs.drop (32 * k)) ts → IsPath at' n fs (c + 1) (ps ++ ts)
  | right (at' n k c : Nat) (fs ps ts : List Int) : 1 < n → k = spN n → k ≤ at' → at' < n → IsPath (at' - k) (n - k) (fs.drop (32 * k)) c ps → IsTree k (fs.take (32 * k)) ts → IsPath at' n fs (c + 1) (ps ++ ts)
theorem IsPath.len {at' n c : Nat} {fs ps : List Int} (h : IsPath at' n fs c ps) : ps.length = 32 * c := by
  induction h with
  | done => rfl
  | left at' n k c fs ps ts _ _ _ _ ht ih => rw [List.length_append, ih, ht.len]; omega
  | right at' n k c fs ps ts _ _ _ _ _ ht ih => rw [List.length_append, ih, ht.len]; omega
theorem IsPath.rng {at' n c : Nat} {fs ps : List Int} (h : IsPath at' n fs c ps) : ∀ z ∈ ps, 0 ≤ z ∧ z ≤ 255 := by
  induction h with
  | done => intro z hz; cases hz
  | left at' n k c fs ps ts _ _ _ _ ht ih => exact rng_append ih ht.rng
  | right at' n k c fs ps ts _ _ _ _ _ ht ih => exact rng_append ih ht.rng
theorem IsPath.steps {at' n c : Nat} {fs ps : List Int} (h : IsPath at' n fs c ps) : IsSteps at' n c := by
  induction h with
  | done => exact .done 0 1 (by omega)
  | left at' n k c fs ps ts h1 h2 h3 _ _ ih => exact .left at' n k c h1 h2 h3 ih
  | right at' n k c fs ps ts h1 h2 h3 _ _ _ ih => exact .right at' n k c h1 h2 h3 ih
theorem IsPath.le {at' n c : Nat} {fs ps : List Int} (h : IsPath at' n fs c ps) : c ≤ n := h.steps.le
theorem isPath_ex (n : Nat) : ∀ (at' : Nat) (fs : List Int), at' < n → fs.length = 32 * n → ∃ c ps, IsPath at' n fs c ps := by
  induction n using Nat.strongRecOn with
  | _ n ih =>
    intro at' fs ha hl
    rcases (by omega : n = 1 ∨ 1 < n) with rfl | h
    · obtain rfl : at' = 0 := by omega
      exact ⟨0, [], .done fs⟩
    · have h1 := spN_lt h
      have h2 := spN_pos n
      by_cases hk : at' < spN n
      · obtain ⟨c, ps, hp⟩ := ih (spN n) h1 at' (fs.take (32 * spN n)) hk (by rw [List.length_take]; omega)
        obtain ⟨ts, ht⟩ := isTree_ex (n - spN n) (fs.drop (32 * spN n)) (by rw [List.length_drop]; omega)
        exact ⟨_, _, .left at' n _ c fs ps ts h rfl hk hp ht⟩
      · obtain ⟨c, ps, hp⟩ := ih (n - spN n) (by omega) (at' - spN n) (fs.drop (32 * spN n)) (by omega) (by rw [List.length_drop]; omega)
        obtain ⟨ts, ht⟩ := isTree_ex (spN n) (fs.take (32 * spN n)) (by rw [List.length_take]; omega)
        exact ⟨_, _, .right at' n _ c fs ps ts h rfl (by omega) ha hp ht⟩
/-- digests of the walk's own, also none at all -/
def OwnR (w : World) (B : Nat) (v : Value) (n : Nat) (fs : List Int) : Prop := w.ownsRow B 26 32 v n (bv fs)
theorem ownR_below {w w' : World} {B n : Nat} {v : Value} {zs : List Int} (h : OwnR w B v n zs) (k : Below w.heap.size w w') : OwnR w' B v n zs := by
  refine World.ownsRow.kept (row := none) h ⟨k.os, k.tape, k.output, k.size, fun i hi _ => k.block i hi⟩ ?_
  cases hv : v.ownBlock with
  | none => exact .inl rfl
  | some b => exact .inr (by simp)
theorem ownR_base {w : World} {B B' n : Nat} {v : Value} {zs : List Int} (h : OwnR w B' v n zs) (hB : B ≤ B') : OwnR w B v n zs := by
  obtain ⟨h1, h2⟩ := h
  refine ⟨h1, h2.imp id ?_⟩
  rintro ⟨g, cap, cur, e, hg, r⟩
  exact ⟨g, cap, cur, e, Nat.le_trans hB hg, r⟩
theorem ownR_nil (w : World) (B : Nat) : OwnR w B (.slice none 0 0) 0 [] := World.ownsRow_nil _ _ _ _
/-- .. as a slice to read -/
theorem ownR_src {w : World} {B n : Nat} {v : Value} {fs : List Int} (h : OwnR w B v n fs) : ∃ p cap, v = .slice p n cap ∧ SrcD w p n cap fs ∧ (∀ b, p = some b → B ≤ b.block) := by
  obtain ⟨h1, h2⟩ := h
  rw [bv_len] at h1
  rcases h2 with ⟨rfl, h0⟩ | ⟨g, cap, cur, rfl, hBg, hg, hn, hm, hs, ht⟩
  · subst h0
    exact ⟨none, 0, rfl, ⟨by omega, by omega, by decide, .inl ⟨rfl, fun _ => rfl⟩⟩, fun b hb => by cases hb⟩
  · refine ⟨_, cap, rfl, ⟨by omega, hn, hm, .inr ⟨g, 0, rfl, (Array.getElem?_eq_some_iff.1 hg).1, ?_⟩⟩, fun b hb => by cases hb; exact hBg⟩
    intro j hj
    have h3 : (cur.toList.take (n * 32))[j]? = (bv fs)[j]? := by rw [ht]
    rw [List.getElem?_take, if_pos (by omega)] at h3
    simp only [World.cell?, hg, Nat.zero_add]
    have h4 : cur[j]? = some (.int .u8 (fs.getD j 0)) := by
      rw [← Array.getElem?_toList, h3, bv, List.getElem?_map, List.getElem?_eq_getElem hj, List.getD_eq_getElem?_getD, List.getElem?_eq_getElem hj]; rfl
    rw [h4]; rfl
/-- append of digests -/
theorem list_appR {ops : Array Oper} {rest : List Oper} {o : Oper} {a : Act} {w : World} {Q : Exit → Act → World → Prop} (hw : Region.wanted o (yielded ops a.tmps) = true) (s x : Operand)
    (ho : o.op = .call { callee := .builtin .append, args := #[s, x], argTypes := #[30, 30] }) (B : Nat) (v : Value) (n : Nat) (fs : List Int) (hs : a.eval s = v) (hown : OwnR w B v n fs)
    (b off m c : Nat) (zs : List Int) (hx : a.eval x = .slice (some ⟨b, off, none⟩) m c) (hzl : zs.length = 32 * m) (hz : BytesAt w b off zs) (hlen : n + m ≤ 1000000000) (hB : B ≤ w.heap.size)
    (h : ∀ v' w', OwnR w' B v' (n + m) (fs ++ zs) → Below B w w' → wpList Tryd.prog ops Q rest (a.put o.dst v') w') : wpList Tryd.prog ops Q (o :: rest) a w := by
  obtain ⟨i0, hi, hz0, hz1, hz2⟩ := info_parts infoD
  refine wpList_step fun K hK => ?_
  rw [if_pos hw]
  refine wp_append_own w s x 30 ho B 26 i0 _ 32 32 Tryd.underlying30 hi hz0 hz1 hz2 (by simp [Value.cells, bv]) (by decide) v n (bv fs) hs hown ⟨b, off, none⟩ m c (bv zs) hx (by rw [bv_len]; omega) ?_ (bv_one zs) (by unfold maxLen; omega) (by omega) hB ?_
  · intro j u hj
    have hj' : j < zs.length := by
      have := (List.getElem?_eq_some_iff.1 hj).1
      rwa [bv_len] at this
    rw [Addr.add_mid, hz j hj']
    have h2 := bv_get zs j hj'
    rw [List.getElem?_toArray, hj] at h2
    exact h2.symm
  · intro v' w' h1 h2 h3
    refine hK _ _ (h v' w' (by unfold OwnR; rw [bv, List.map_append]; exact h1) (gr_below1 h2 hB (fun g hg => (World.ownsRow.lt hown g hg).1)))
def IsOwn (w0 : World) (n : Nat) (fs : List Int) (e : Ending) (w : World) : Prop := ∃ v, e = .returned v ∧ OwnR w w0.heap.size v n fs ∧ Below w0.heap.size w0 w
set_option maxRecDepth 100000 in
set_option maxHeartbeats 2000000 in
theorem path_one (p : Option Addr) (cap : Nat) (at' : Int) (w : World) : Calls Tryd.prog 46 #[.slice p 1 cap, .int .i64 at'] w fun e w' => IsOwn w 0 [] e w' := by
  go_enter Tryd.func46, Tryd.ntmps46
  go_wp2_with fail
  go_ret
  exact ⟨_, rfl, ownR_nil _ _, Below.refl _ _⟩
set_option maxRecDepth 100000 in
set_option maxHeartbeats 4000000 in
theorem path_left (at' n k c b off cap : Nat) (ps ts : List Int) (w : World) (hn : 1 < n) (hn2 : n ≤ 1099511627776) (hc : n ≤ cap) (hm : cap ≤ 9223372036854775807) (hkn : Hid (k = spN n)) (hk0 : 0 < k) (hk1 : k < n) (hak : at' < k) (hcn : c ≤ 1000) (hts : Hid (ts.length = 32))
    (IA : ∀ u : World, Below w.heap.size w u → Calls Tryd.prog 46 #[.slice (some ⟨b, off, none⟩) k cap, .int .i64 at'] u fun e w' => IsOwn u c ps e w')
    (IB : ∀ u : World, Below w.heap.size w u → Calls Tryd.prog 19 #[.slice (some ⟨b, off + 32 * k, none⟩) (n - k : Nat) (cap - k : Nat)] u fun e w' => e = .returned (.agg (bv ts).toArray) ∧ Below u.heap.size u w') :
    Calls Tryd.prog 46 #[.slice (some ⟨b, off, none⟩) n cap, .int .i64 at'] w fun e w' => IsOwn w (c + 1) (ps ++ ts) e w' := by
  have t1 : ¬ ((n : Int) = 1) := by omega
  go_enter Tryd.func46, Tryd.ntmps46
  go_wp2_with fail
  refine (split_any n w hn (by omega)).mono ?_; rintro e w' ⟨rfl, rfl⟩
  rw [← hkn.out]
  go_upto_region 5 with fail
  have s0 : (k : Int) ≤ (cap : Int) := by omega
  have s1 : (k : Int) ≤ (n : Int) := by omega
  have s2 : ¬ (cap = k) := by omega
  refine wp_region_any (by kernel_rfl) ?_
  change wpAny _ _ _ _ _ _ _ (World.drew _)
  generalize hWD : w'.drew = WD
  have E0 : Hid (Below w'.heap.size w' WD) := Lib.hid (by rw [← hWD]; exact (Below.refl _ _).drew)
  clear hWD
  refine wpAny_take (i := 0) (v := .slice (some ⟨b, off, none⟩) n cap) rfl (by kernel_rfl) (by kernel_rfl) (by kernel_rfl) (fun _ _ _ h => h) (Or.inl ⟨by rfl, ?y0⟩) ?_
  case y0 => intro u; rfl
  refine wpAny_take (i := 1) (v := .int .i64 k) rfl (by kernel_rfl) (by kernel_rfl) (by kernel_rfl) (fun _ _ _ h => h) (Or.inl ⟨by rfl, ?y1⟩) ?_
  case y1 => intro u; rfl
  refine wpAny_take (i := 2) (v := .slice (some ⟨b, off, none⟩) k cap) rfl (by kernel_rfl) (by kernel_rfl) (by kernel_rfl) (fun _ _ _ h => h) (Or.inl ⟨by rfl, ?y2⟩) ?_
  case y2 => intro u; simp only [Act.put]; go_simp
  refine wpAny_take (i := 3) (v := .int .i64 at') rfl (by kernel_rfl) (by kernel_rfl) (by kernel_rfl) (fun _ _ _ h => h) (Or.inl ⟨by rfl, ?y3⟩) ?_
  case y3 => intro u; rfl
  refine wpAny_take (i := 5) (v := .slice (some ⟨b, off, none⟩) n cap) rfl (by kernel_rfl) (by kernel_rfl) (by kernel_rfl) (fun _ _ _ h => h) (Or.inl ⟨by rfl, ?y5⟩) ?_
  case y5 => intro u; rfl
  refine wpAny_take (i := 6) (v := .int .i64 k) rfl (by kernel_rfl) (by kernel_rfl) (by kernel_rfl) (fun _ _ _ h => h) (Or.inl ⟨by rfl, ?y6⟩) ?_
  case y6 => intro u; rfl
  refine wpAny_take (i := 7) (v := .slice (some ⟨b, off + 32 * k, none⟩) (n - k : Nat) (cap - k : Nat)) rfl (by kernel_rfl) (by kernel_rfl) (by kernel_rfl) (fun _ _ _ h => h) (Or.inl ⟨by rfl, ?y7⟩) ?_
  case y7 => intro u; simp only [Act.put]; go_simp
  refine any_prefix [4, 8] 3 rfl (by decide) (by kernel_rfl) ?_
  simp only [Act.put, List.filterMap_cons, List.filterMap_nil, List.getElem?_cons_succ, List.getElem?_cons_zero]
  go_wp2_with fail
  refine (IA _ E0.out).mono ?_
  rintro e w1 ⟨v1, rfl, ho1, hb1⟩
  have B1 := Lib.hid (E0.out.trans (hb1.mono E0.out.size))
  have O1 := Lib.hid (ownR_base ho1 E0.out.size)
  clear ho1 hb1 E0
  go_wp2_with fail
  refine (IB _ B1.out).mono ?_
  rintro e w2 ⟨rfl, hb2⟩
  have B2 := Lib.hid (B1.out.trans (hb2.mono B1.out.size))
  have O2 := Lib.hid (ownR_below O1.out hb2)
  clear hb2 O1 B1
  go_wp2_with fail
  change wpAny _ _ _ _ 3 _ _ _
  refine any_order [9, 10, 11] rfl (by decide) (by kernel_rfl) ?_
  simp only [Act.put, List.filterMap_cons, List.filterMap_nil, List.getElem?_cons_succ, List.getElem?_cons_zero]
  refine list_build1 (by rfl) (.tmp 23) rfl (bv ts) rfl (by rw [bv_len]; exact hts.out) ?_
  generalize hA : World.alloc _ _ = w3
  have B3 := Lib.hid (show Below w'.heap.size w' w3 by rw [← hA]; exact B2.out.alloc B2.out.size _)
  have O3 := Lib.hid (show OwnR w3 w'.heap.size v1 c ps by rw [← hA]; exact ownR_below O2.out (bel_alloc1 _ _))
  have T3 := Lib.hid (show Dg w3 w2.heap.size ts by rw [← hA]; exact Dg.box w2 hts.out)
  clear hA B2 O2
  (try simp only [Act.put])
  refine list_appR (by rfl) (.tmp 19) (.tmp 24) rfl w'.heap.size v1 c ps rfl O3.out w2.heap.size 0 1 1 ts rfl (by rw [hts.out]) T3.out.bytes (by omega) B3.out.size ?_
  intro v4 w4 ho4 hb4
  have R := Lib.hid (show IsOwn w' (c + 1) (ps ++ ts) (.returned v4) w4 from ⟨_, rfl, ho4, B3.out.trans hb4⟩)
  clear ho4 hb4
  (try simp only [Act.put])
  go_wp2_with fail
  go_ret
  exact R.out
set_option maxRecDepth 100000 in
set_option maxHeartbeats 4000000 in
theorem path_right (at' n k c b off cap : Nat) (ps ts : List Int) (w : World) (hn : 1 < n) (hn2 : n ≤ 1099511627776) (hc : n ≤ cap) (hm : cap ≤ 9223372036854775807) (hkn : Hid (k = spN n)) (hk0 : 0 < k) (hk1 : k < n) (hak : k ≤ at') (han : at' < n) (hcn : c ≤ 1000) (hts : Hid (ts.length = 32))
    (IA : ∀ u : World, Below w.heap.size w u → Calls Tryd.prog 46 #[.slice (some ⟨b, off + 32 * k, none⟩) (n - k : Nat) (cap - k : Nat), .int .i64 (at' - k : Nat)] u fun e w' => IsOwn u c ps e w')
    (IB : ∀ u : World, Below w.heap.size w u → Calls Tryd.prog 19 #[.slice (some ⟨b, off, none⟩) k cap] u fun e w' => e = .returned (.agg (bv ts).toArray) ∧ Below u.heap.size u w') :
    Calls Tryd.prog 46 #[.slice (some ⟨b, off, none⟩) n cap, .int .i64 at'] w fun e w' => IsOwn w (c + 1) (ps ++ ts) e w' := by
  have t1 : ¬ ((n : Int) = 1) := by omega
  go_enter Tryd.func46, Tryd.ntmps46
  go_wp2_with fail
  refine (split_any n w hn (by omega)).mono ?_; rintro e w' ⟨rfl, rfl⟩
  rw [← hkn.out]
  go_upto_region 6 with fail
  have s0 : (k : Int) ≤ (cap : Int) := by omega
  have s1 : (k : Int) ≤ (n : Int) := by omega
  have s2 : ¬ (cap = k) := by omega
  have wA : IntKind.i64.wrap ((at' : Int) - (k : Int)) = ((at' - k : Nat) : Int) := by rw [IntKind.wrap_i64]; omega
  refine wp_region_any (by kernel_rfl) ?_
  change wpAny _ _ _ _ _ _ _ (World.drew _)
  generalize hWD : w'.drew = WD
  have E0 : Hid (Below w'.heap.size w' WD) := Lib.hid (by rw [← hWD]; exact (Below.refl _ _).drew)
  clear hWD
  refine wpAny_take (i := 0) (v := .slice (some ⟨b, off, none⟩) n cap) rfl (by kernel_rfl) (by kernel_rfl) (by kernel_rfl) (fun _ _ _ h => h) (Or.inl ⟨by rfl, ?y0⟩) ?_
  case y0 => intro u; rfl
  refine wpAny_take (i := 1) (v := .int .i64 k) rfl (by kernel_rfl) (by kernel_rfl) (by kernel_rfl) (fun _ _ _ h => h) (Or.inl ⟨by rfl, ?y1⟩) ?_
  case y1 => intro u; rfl
  refine wpAny_take (i := 2) (v := .slice (some ⟨b, off + 32 * k, none⟩) (n - k : Nat) (cap - k : Nat)) rfl (by kernel_rfl) (by kernel_rfl) (by kernel_rfl) (fun _ _ _ h => h) (Or.inl ⟨by rfl, ?y2⟩) ?_
  case y2 => intro u; simp only [Act.put]; go_simp
  refine wpAny_take (i := 3) (v := .int .i64 at') rfl (by kernel_rfl) (by kernel_rfl) (by kernel_rfl) (fun _ _ _ h => h) (Or.inl ⟨by rfl, ?y3⟩) ?_
  case y3 => intro u; rfl
  refine wpAny_take (i := 4) (v := .int .i64 k) rfl (by kernel_rfl) (by kernel_rfl) (by kernel_rfl) (fun _ _ _ h => h) (Or.inl ⟨by rfl, ?y4⟩) ?_
  case y4 => intro u; rfl
  refine wpAny_take (i := 5) (v := .int .i64 (at' - k : Nat)) rfl (by kernel_rfl) (by kernel_rfl) (by kernel_rfl) (fun _ _ _ h => h) (Or.inl ⟨by rfl, ?y5⟩) ?_
  case y5 => intro u; simp only [Act.put]; go_simp
  refine wpAny_take (i := 7) (v := .slice (some ⟨b, off, none⟩) n cap) rfl (by kernel_rfl) (by kernel_rfl) (by kernel_rfl) (fun _ _ _ h => h) (Or.inl ⟨by rfl, ?y7⟩) ?_
  case y7 => intro u; rfl
  refine wpAny_take (i := 8) (v := .int .i64 k) rfl (by kernel_rfl) (by kernel_rfl) (by kernel_rfl) (fun _ _ _ h => h) (Or.inl ⟨by rfl, ?y8⟩) ?_
  case y8 => intro u; rfl
  refine wpAny_take (i := 9) (v := .slice (some ⟨b, off, none⟩) k cap) rfl (by kernel_rfl) (by kernel_rfl) (by kernel_rfl) (fun _ _ _ h => h) (Or.inl ⟨by rfl, ?y9⟩) ?_
  case y9 => intro u; simp only [Act.put]; go_simp
  refine any_prefix [6, 10] 3 rfl (by decide) (by kernel_rfl) ?_
  simp only [Act.put, List.filterMap_cons, List.filterMap_nil, List.getElem?_cons_succ, List.getElem?_cons_zero]
  go_wp2_with fail
  refine (IA _ E0.out).mono ?_
  rintro e w1 ⟨v1, rfl, ho1, hb1⟩
  have B1 := Lib.hid (E0.out.trans (hb1.mono E0.out.size))
  have O1 := Lib.hid (ownR_base ho1 E0.out.size)
  clear ho1 hb1 E0
  go_wp2_with fail
  refine (IB _ B1.out).mono ?_
  rintro e w2 ⟨rfl, hb2⟩
  have B2 := Lib.hid (B1.out.trans (hb2.mono B1.out.size))
  have O2 := Lib.hid (ownR_below O1.out hb2)
  clear hb2 O1 B1
  go_wp2_with fail
  change wpAny _ _ _ _ 3 _ _ _
  refine any_order [11, 12, 13] rfl (by decide) (by kernel_rfl) ?_
  simp only [Act.put, List.filterMap_cons, List.filterMap_nil, List.getElem?_cons_succ, List.getElem?_cons_zero]
  refine list_build1 (by rfl) (.tmp 36) rfl (bv ts) rfl (by rw [bv_len]; exact hts.out) ?_
  generalize hA : World.alloc _ _ = w3
  have B3 := Lib.hid (show Below w'.heap.size w' w3 by rw [← hA]; exact B2.out.alloc B2.out.size _)
  have O3 := Lib.hid (show OwnR w3 w'.heap.size v1 c ps by rw [← hA]; exact ownR_below O2.out (bel_alloc1 _ _))
  have T3 := Lib.hid (show Dg w3 w2.heap.size ts by rw [← hA]; exact Dg.box w2 hts.out)
  clear hA B2 O2
  (try simp only [Act.put])
  refine list_appR (by rfl) (.tmp 32) (.tmp 37) rfl w'.heap.size v1 c ps rfl O3.out w2.heap.size 0 1 1 ts rfl (by rw [hts.out]) T3.out.bytes (by omega) B3.out.size ?_
  intro v4 w4 ho4 hb4
  have R := Lib.hid (show IsOwn w' (c + 1) (ps ++ ts) (.returned v4) w4 from ⟨_, rfl, ho4, B3.out.trans hb4⟩)
  clear ho4 hb4
  (try simp only [Act.put])
  go_wp2_with fail
  go_ret
  exact R.out
theorem path_any (n : Nat) : ∀ (at' c : Nat) (fs ps : List Int), IsPath at' n fs c ps → ∀ (p : Option Addr) (cap : Nat) (w : World), Hid (SrcD w p n cap fs) → Hid (∀ z ∈ fs, 0 ≤ z ∧ z ≤ 255) → n ≤ 1000 → Hid (KeysAt w) →
    Calls Tryd.prog 46 #[.slice p n cap, .int .i64 at'] w fun e w' => IsOwn w c ps e w' := by
  have hml : maxLen ≤ 9223372036854775807 := by decide
  induction n using Nat.strongRecOn with
  | _ n ih =>
    intro at' c fs ps ht p cap w hz hr hn hk
    obtain ⟨hl, hc, hm, hp⟩ := hz.out
    cases ht with
    | done => exact path_one p cap _ w
    | left _ _ k c _ ps ts h1 hk2 hak hp2 ht =>
      obtain ⟨h2, _⟩ | ⟨b, off, rfl, hb, hz1⟩ := hp
      · omega
      · have k0 : 0 < k := by rw [hk2]; exact spN_pos n
        have k1 : k < n := by rw [hk2]; exact spN_lt h1
        refine path_left at' n k c b off cap ps ts w h1 (by omega) hc (by omega) (Lib.hid hk2) k0 k1 hak (by have := hp2.le; omega) (Lib.hid ht.len) ?_ ?_
        · intro u hu
          exact ih k k1 at' c _ ps hp2 _ _ u (Lib.hid ⟨by rw [List.length_take]; omega, by omega, hm, .inr ⟨b, off, rfl, Nat.lt_of_lt_of_le hb hu.size, (hz1.below hu hb).take _⟩⟩) (Lib.hid fun z hz => hr.out z (List.mem_of_mem_take hz)) (by omega) (Lib.hid (hk.out.below hu))
        · intro u hu
          exact tree_any (n - k) _ ts ht _ _ u (Lib.hid ⟨by rw [List.length_drop]; omega, by omega, by omega, .inr ⟨b, off + 32 * k, rfl, Nat.lt_of_lt_of_le hb hu.size, (hz1.below hu hb).drop _⟩⟩) (Lib.hid fun z hz => hr.out z (List.mem_of_mem_drop hz)) (by omega) (Lib.hid (hk.out.below hu))
    | right _ _ k c _ ps ts h1 hk2 hak han hp2 ht =>
      obtain ⟨h2, _⟩ | ⟨b, off, rfl, hb, hz1⟩ := hp
      · omega
      · have k0 : 0 < k := by rw [hk2]; exact spN_pos n
        have k1 : k < n := by rw [hk2]; exact spN_lt h1
        refine path_right at' n k c b off cap ps ts w h1 (by omega) hc (by omega) (Lib.hid hk2) k0 k1 hak han (by have := hp2.le; omega) (Lib.hid ht.len) ?_ ?_
        · intro u hu
          exact ih (n - k) (by omega) (at' - k) c _ ps hp2 _ _ u (Lib.hid ⟨by rw [List.length_drop]; omega, by omega, by omega, .inr ⟨b, off + 32 * k, rfl, Nat.lt_of_lt_of_le hb hu.size, (hz1.below hu hb).drop _⟩⟩) (Lib.hid fun z hz => hr.out z (List.mem_of_mem_drop hz)) (by omega) (Lib.hid (hk.out.below hu))
        · intro u hu
          exact tree_any k _ ts ht _ _ u (Lib.hid ⟨by rw [List.length_take]; omega, by omega, hm, .inr ⟨b, off, rfl, Nat.lt_of_lt_of_le hb hu.size, (hz1.below hu hb).take _⟩⟩) (Lib.hid fun z hz => hr.out z (List.mem_of_mem_take hz)) (by omega) (Lib.hid (hk.out.below hu))
def IsOwn2 (w0 : World) (n : Nat) (fs : List Int) (e : Ending) (w : World) : Prop := ∃ v, e = .returned (.tuple #[v, .int .i64 0]) ∧ OwnR w w0.heap.size v n fs ∧ Below w0.heap.size w0 w
set_option maxRecDepth 100000 in
set_option maxHeartbeats 2000000 in
theorem pathTop_any (at' n c : Nat) (fs ps : List Int) (ht : IsPath at' n fs c ps) (ha : at' < n) (p : Option Addr) (cap : Nat) (w : World) (hz : Hid (SrcD w p n cap fs)) (hr : Hid (∀ z ∈ fs, 0 ≤ z ∧ z ≤ 255)) (hn : n ≤ 1000) (hk : Hid (KeysAt w)) :
    Calls Tryd.prog 21 #[.slice p n cap, .int .i64 at'] w fun e w' => IsOwn2 w c ps e w' := by
  have HT := Lib.hid ht
  clear ht
  go_enter Tryd.func21, Tryd.ntmps21
  go_wp2_with fail
  refine (path_any n at' c fs ps HT.out p cap w hz hr hn hk).mono ?_
  rintro e w' ⟨v, rfl, h1, h2⟩
  have R := Lib.hid (show IsOwn2 w c ps (.returned (.tuple #[v, .int .i64 0])) w' from ⟨v, rfl, h1, h2⟩)
  clear h1 h2
  go_wp2_with fail
  go_ret2
  exact R.out
end Go.Proofs.YtmheblpgofeafaaDoor
