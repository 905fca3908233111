/- Equal digests, equal stamps. Equal lists, in the reference: frankingref16.Same; slices of two digests. What the laws share: a stamp that is issued. The law's checks of known stamps. -/
import Derived.Test.YtjdkdhpippapmaaGreatDoorStpZB
import Derived.Laws.StructEq
import Derived.ChangeKeysEq
import Derived.Test.YtjdkdhpippapmaaGreatDoorStpZA
import Derived.Test.YtjdkdhpippapmaaGreatDoorDigBuC
import Derived.Test.YtjdkdhpippapmaaGreatDoorRegU
import Derived.Test.YtjdkdhpippapmaaGreatDoorStpSp
import Derived.Test.YtjdkdhpippapmaaGreatDoorStpZC
namespace Go.Proofs.YtjdkdhpippapmaaGreatDoor
open Go.RowKit
set_option linter.unusedVariables false
set_option linter.unusedSimpArgs false

theorem all_range {xs ys : List Int} (hx : xs.length = 32) (hy : ys.length = 32) : ((List.range 32).all fun k => xs.getD k 0 == ys.getD k 0) = decide (xs = ys) := by
  rw [Bool.eq_iff_iff, List.all_eq_true, decide_eq_true_eq]
  constructor
  · intro h
    exact same32 hx hy fun j hj => by have := h j (by simpa using hj); simpa using this
  · rintro rfl k _; simp
theorem eqDig_d (d : Nat) (xs ys : List Int) (hx : xs.length = 32) (hy : ys.length = 32) (w : World) : (Op.equalIn (d + 1 + 1) 23 (.agg (bv xs).toArray) (.agg (bv ys).toArray)).run Tryz.prog w = .ok (decide (xs = ys)) w := by
  have hu : Tryz.prog.underlying 23 = some (.array 32 5) := by kernel_rfl
  have hc : Tryz.prog.cellsOf 5 = 1 := by kernel_rfl
  have hint : Tryz.prog.underlying 5 = some (.int .u8) := by kernel_rfl
  obtain ⟨i, hi⟩ := info_of_underlying hint
  have e : ∀ (a b : Int) (w : World), (Op.equalIn (d + 1) 5 (.int .u8 a) (.int .u8 b)).run Tryz.prog w = .ok (a == b) w := fun a b w => by
    rw [run_equalIn_int w d _ _ _ a b hint]
  have hagg : ∀ w : World, (isAgg 5).run Tryz.prog w = .ok false w := fun w => by
    unfold isAgg; rw [Sem.run_bind, run_underlying hint w]; rfl
  have hp : ∀ (xs : List Int), xs.length = 32 → ∀ (k : Nat) (w : World), k < 32 → (part 5 (bv xs).toArray k).run Tryz.prog w = .ok (.int .u8 (xs.getD k 0)) w := fun xs hx k w hk => by
    have hg := bv_get xs k (by omega)
    unfold part
    rw [Sem.run_bind, hagg w]
    simp only [Result.andThen_ok, Bool.false_eq_true, if_false]
    rw [hg]; rfl
  have items : ∀ l : List Nat, (∀ k ∈ l, k < 32) → (Op.eqItems (d + 1) 5 1 (bv xs).toArray (bv ys).toArray l).run Tryz.prog w = .ok (l.all fun k => xs.getD k 0 == ys.getD k 0) w := by
    intro l
    induction l with
    | nil => intro _; rfl
    | cons k l ih =>
      intro hl
      have hk := hl k (by simp)
      have ih' := ih fun j hj => hl j (by simp [hj])
      simp only [Op.eqItems, Sem.run_bind, Nat.mul_one, hp xs hx k w hk, hp ys hy k w hk, Result.andThen_ok, e, List.all_cons]
      cases hb : (xs.getD k 0 == ys.getD k 0) with
      | true => simpa using ih'
      | false => simp
  rw [run_equalIn_array w (d + 1) _ _ hu hi, hc, ← all_range hx hy]
  exact items _ fun k hk => by simpa using hk
theorem eqDig_any (xs ys : List Int) (hx : xs.length = 32) (hy : ys.length = 32) (w : World) : (Op.equalIn 10000 23 (.agg (bv xs).toArray) (.agg (bv ys).toArray)).run Tryz.prog w = .ok (decide (xs = ys)) w := eqDig_d 9998 xs ys hx hy w
set_option maxRecDepth 100000 in
theorem part0 {zs : List Int} (h : zs.length = 32) (n c s : Int) (w : World) : (part 23 (stv zs n c s).toArray 0).run Tryz.prog w = .ok (.agg (bv zs).toArray) w := by
  obtain ⟨z0, z1, z2, z3, z4, z5, z6, z7, z8, z9, z10, z11, z12, z13, z14, z15, z16, z17, z18, z19, z20, z21, z22, z23, z24, z25, z26, z27, z28, z29, z30, z31, rfl⟩ := list32 zs h
  kernel_rfl
set_option maxRecDepth 100000 in
theorem part1 {zs : List Int} (h : zs.length = 32) (n c s : Int) (w : World) : (part 3 (stv zs n c s).toArray 32).run Tryz.prog w = .ok (.int .i64 n) w := by
  obtain ⟨z0, z1, z2, z3, z4, z5, z6, z7, z8, z9, z10, z11, z12, z13, z14, z15, z16, z17, z18, z19, z20, z21, z22, z23, z24, z25, z26, z27, z28, z29, z30, z31, rfl⟩ := list32 zs h
  kernel_rfl
set_option maxRecDepth 100000 in
theorem part2 {zs : List Int} (h : zs.length = 32) (n c s : Int) (w : World) : (part 25 (stv zs n c s).toArray 33).run Tryz.prog w = .ok (.agg #[.int .i64 c, .int .i64 s]) w := by
  obtain ⟨z0, z1, z2, z3, z4, z5, z6, z7, z8, z9, z10, z11, z12, z13, z14, z15, z16, z17, z18, z19, z20, z21, z22, z23, z24, z25, z26, z27, z28, z29, z30, z31, rfl⟩ := list32 zs h
  kernel_rfl
set_option maxRecDepth 100000 in
theorem eqSt_same (zs : List Int) (n c s : Int) (h : zs.length = 32) (w : World) : (Op.equalIn 10000 27 (.agg (stv zs n c s).toArray) (.agg (stv zs n c s).toArray)).run Tryz.prog w = .ok true w := by
  obtain ⟨f0, f1, f2, hU, o0, o1, o2, t0, t1, t2, n0, n1, n2⟩ : ∃ f0 f1 f2 : Field, Tryz.prog.underlying 27 = some (.struct #[f0, f1, f2]) ∧ f0.offset = 0 ∧ f1.offset = 32 ∧ f2.offset = 33 ∧ f0.type = 23 ∧ f1.type = 3 ∧ f2.type = 25 ∧ f0.name ≠ "_" ∧ f1.name ≠ "_" ∧ f2.name ≠ "_" := ⟨_, _, _, Tryz.underlying27, rfl, rfl, rfl, rfl, rfl, rfl, by decide, by decide, by decide⟩
  have hF : (Tryz.prog.fieldsOf 27).toList = [f0, f1, f2] := by simp [Program.fieldsOf, hU]
  have hint : Tryz.prog.underlying 3 = some (.int .i64) := Tryz.underlying3
  have e1 : (Op.equalIn 9999 3 (.int .i64 n) (.int .i64 n)).run Tryz.prog w = .ok true w := by rw [run_equalIn_int w 9998 _ _ _ n n hint]; simp
  have e0 := eqDig_d 9997 zs zs h h w
  have e2 : (Op.equalIn 9999 25 (.agg #[.int .i64 c, .int .i64 s]) (.agg #[.int .i64 c, .int .i64 s])).run Tryz.prog w = .ok true w := by go_simp
  rw [run_equalIn_struct w 9999 _ _ _ (by rw [hU]; simp [Program.fieldsOf, hU]) (by kernel_rfl), hF]
  simp only [Op.eqFields, n0, n1, n2, o0, o1, o2, t0, t1, t2, ne_eq, not_false_eq_true, if_true, Sem.run_bind, part0 h, part1 h, part2 h, Result.andThen_ok]
  rw [show (9999 : Nat) = 9997 + 1 + 1 from rfl, e0]
  simp only [Result.andThen_ok, decide_true, Bool.not_true, Bool.false_eq_true, if_false, Sem.run_bind, part1 h]
  rw [show (9997 + 1 + 1 : Nat) = 9999 from rfl, e1]
  simp only [Result.andThen_ok, Bool.not_true, Bool.false_eq_true, if_false, Sem.run_bind, part2 h, e2, Sem.run_ite, Sem.run_pure]
end Go.Proofs.YtjdkdhpippapmaaGreatDoor
namespace Go.Proofs.YtjdkdhpippapmaaGreatDoor
open Go.RowKit
set_option linter.unusedVariables false
set_option linter.unusedSimpArgs false

def SrcD (w : World) (p : Option Addr) (n cap : Nat) (fs : List Int) : Prop :=
  fs.length = 32 * n ∧ n ≤ cap ∧ cap ≤ maxLen ∧ ((n = 0 ∧ (p = none → cap = 0)) ∨ ∃ b off, p = some ⟨b, off, none⟩ ∧ b < w.heap.size ∧ BytesAt w b off fs)
theorem SrcD.below {w w' : World} {p : Option Addr} {n cap : Nat} {fs : List Int} (h : SrcD w p n cap fs) (k : Below w.heap.size w w') : SrcD w' p n cap fs := by
  obtain ⟨h1, h2, h3, h4 | ⟨b, off, rfl, hb, hc⟩⟩ := h
  · exact ⟨h1, h2, h3, .inl h4⟩
  · exact ⟨h1, h2, h3, .inr ⟨b, off, rfl, Nat.lt_of_lt_of_le hb k.size, hc.below k hb⟩⟩

theorem srcD_at {w : World} {p : Option Addr} {n cap : Nat} {fs : List Int} (h : SrcD w p n cap fs) {k : Nat} (hk : k < n) : ∃ b off, p = some ⟨b, off, none⟩ ∧ b < w.heap.size ∧ BytesAt w b (off + k * 32) ((fs.drop (32 * k)).take 32) := by
  obtain ⟨h1, h2, h3, h4 | ⟨b, off, rfl, hb, hc⟩⟩ := h
  · omega
  · exact ⟨b, off, rfl, hb, by rw [Nat.mul_comm k 32]; exact (hc.drop (32 * k)).take 32⟩
set_option maxRecDepth 100000 in
set_option maxHeartbeats 4000000 in
theorem rsame_any (p q : Option Addr) (n cap cap2 : Nat) (fs : List Int) (w : World) (hp : Hid (SrcD w p n cap fs)) (hq : Hid (SrcD w q n cap2 fs)) (hn : n ≤ 4611686018427387904) :
    Calls Tryz.prog 18 #[.slice p n cap, .slice q n cap2] w fun e w' => e = .returned (.bool true) ∧ Below w.heap.size w w' := by
  go_enter Tryz.func18, Tryz.ntmps18
  go_wp2_with fail
  go_loopw [5] (fun i wr => ∃ k : Nat, k ≤ n ∧ i = .int .i64 k ∧ Hid (Ext w wr)) (fun i _ => n - (intOf i).toNat)
  case atStart => exact ⟨0, by omega, rfl, Lib.hid (Ext.refl w)⟩
  case round =>
    obtain ⟨k, hk, rfl, RE⟩ := hrel
    by_cases hlt : k < n
    · obtain ⟨b1, o1, hp1, hb1, hc1⟩ := srcD_at (hp.out.below RE.out) hlt
      obtain ⟨b2, o2, hq1, hb2, hc2⟩ := srcD_at (hq.out.below RE.out) hlt
      obtain ⟨el, hel⟩ : ∃ el, (fs.drop (32 * k)).take 32 = el := ⟨_, rfl⟩
      have hl : el.length = 32 := by rw [← hel, List.length_take, List.length_drop]; have := hp.out.1; omega
      rw [hel] at hc1 hc2
      clear hel
      subst hp1 hq1
      have H1 := Lib.hid hc1
      have H2 := Lib.hid hc2
      have HL := Lib.hid hl
      have EQ := eqDig_same el hl
      clear hc1 hc2 hl
      go_upto_region 6 with fail
      refine wp_region_any (by kernel_rfl) ?_
      change wpAny _ _ _ _ _ _ _ (World.drew _)
      generalize hWD : wr.drew = W0
      have E0 := Lib.hid (show Ext w W0 by rw [← hWD]; exact Below.drew RE.out)
      have P0 := Lib.hid (show BytesAt W0 b1 (o1 + k * 32) el by rw [← hWD]; exact H1.out)
      have Q0 := Lib.hid (show BytesAt W0 b2 (o2 + k * 32) el by rw [← hWD]; exact H2.out)
      have l1 : b1 < W0.heap.size := by rw [← hWD]; exact hb1
      have l2 : b2 < W0.heap.size := by rw [← hWD]; exact hb2
      clear hWD
      refine region_E [8] ?_
      refine anyU_takeD (i := 0) (v := .slice (some ⟨b1, o1, none⟩) n cap) 17 rfl rfl (by kernel_rfl) (by kernel_rfl) (by kernel_rfl) (fun _ _ _ h => h) (by kernel_rfl) (Ext.stable _) (fun _ h => h) (yieldsU_val rfl (fun u hu => by rfl)) ?_
      refine anyU_takeD (i := 1) (v := .int .i64 k) 18 rfl rfl (by kernel_rfl) (by kernel_rfl) (by kernel_rfl) (fun _ _ _ h => h) (by kernel_rfl) (Ext.stable _) (fun _ h => h) (yieldsU_val rfl (fun u hu => by rfl)) ?_
      refine anyU_takeD (i := 2) (v := .pointer (some ⟨b1, o1 + k * 32, none⟩)) 19 rfl rfl (by kernel_rfl) (by kernel_rfl) (by kernel_rfl) (fun _ _ _ h => h) (by kernel_rfl) (Ext.stable _) (fun _ h => h) (yieldsU_val rfl (fun u hu => by go_simp)) ?_
      refine anyU_takeD (i := 3) (v := .agg (bv el).toArray) 20 rfl rfl (by kernel_rfl) (by kernel_rfl) (by kernel_rfl) (fun _ _ _ h => h) (by kernel_rfl) (Ext.stable _) (fun _ h => h) (yieldsU_of_C (yields_loadM rfl _ rfl b1 (o1 + k * 32) rfl el HL.out (fun u hu => P0.out.below hu l1))) ?_
      refine anyU_takeD (i := 4) (v := .slice (some ⟨b2, o2, none⟩) n cap2) 21 rfl rfl (by kernel_rfl) (by kernel_rfl) (by kernel_rfl) (fun _ _ _ h => h) (by kernel_rfl) (Ext.stable _) (fun _ h => h) (yieldsU_val rfl (fun u hu => by rfl)) ?_
      refine anyU_takeD (i := 5) (v := .int .i64 k) 22 rfl rfl (by kernel_rfl) (by kernel_rfl) (by kernel_rfl) (fun _ _ _ h => h) (by kernel_rfl) (Ext.stable _) (fun _ h => h) (yieldsU_val rfl (fun u hu => by rfl)) ?_
      refine anyU_takeD (i := 6) (v := .pointer (some ⟨b2, o2 + k * 32, none⟩)) 23 rfl rfl (by kernel_rfl) (by kernel_rfl) (by kernel_rfl) (fun _ _ _ h => h) (by kernel_rfl) (Ext.stable _) (fun _ h => h) (yieldsU_val rfl (fun u hu => by go_simp)) ?_
      refine anyU_takeD (i := 7) (v := .agg (bv el).toArray) 24 rfl rfl (by kernel_rfl) (by kernel_rfl) (by kernel_rfl) (fun _ _ _ h => h) (by kernel_rfl) (Ext.stable _) (fun _ h => h) (yieldsU_of_C (yields_loadM rfl _ rfl b2 (o2 + k * 32) rfl el HL.out (fun u hu => Q0.out.below hu l2))) ?_
      refine anyU_tail 8 [] rfl rfl (by decide) (by kernel_rfl) ?_
      intro w1 h1
      simp only [Act.put, List.filterMap_cons, List.filterMap_nil, List.getElem?_cons_succ, List.getElem?_cons_zero]
      have E1 := Lib.hid (Ext.trans E0.out h1)
      clear h1 E0 P0 Q0
      go_wp2_with fail
      go_roundw
      case rel => exact ⟨k + 1, by omega, by go_num, E1⟩
      case measure => simp [intOf]; omega
    · go_wp2_with fail
      go_ret
      exact ⟨rfl, RE.out⟩
theorem SrcL.flat {w : World} {p : Option Addr} {n c : Nat} {l : List (List Int)} (h : SrcL w p n c l) (hd : Dgs l) : SrcD w p n c l.flatten := ⟨by rw [flat_len hd, h.1], h.2.1, h.2.2.1, h.2.2.2⟩
set_option maxRecDepth 100000 in
theorem run_build2 (xs ys : List Int) (hx : xs.length = 32) (hy : ys.length = 32) (w : World) : (Instr.buildSlice 36 2 #[(0, .agg (bv xs).toArray), (1, .agg (bv ys).toArray)]).run Tryz.prog w = .ok (.slice (some ⟨w.heap.size, 0, none⟩) 2 2) (w.alloc (.cells (bv (xs ++ ys)).toArray 23)) := by
  obtain ⟨z0, z1, z2, z3, z4, z5, z6, z7, z8, z9, z10, z11, z12, z13, z14, z15, z16, z17, z18, z19, z20, z21, z22, z23, z24, z25, z26, z27, z28, z29, z30, z31, rfl⟩ := list32 xs hx
  obtain ⟨y0, y1, y2, y3, y4, y5, y6, y7, y8, y9, y10, y11, y12, y13, y14, y15, y16, y17, y18, y19, y20, y21, y22, y23, y24, y25, y26, y27, y28, y29, y30, y31, rfl⟩ := list32 ys hy
  kernel_rfl
theorem list_build2 {ops : Array Oper} {Q : Exit → Act → World → Prop} {o : Oper} {rest : List Oper} {a : Act} {w : World} (hw : Region.wanted o (yielded ops a.tmps) = true) (x y : Operand) (ho : o.op = .buildSlice 36 2 #[(0, x), (1, y)]) (xs ys : List Int) (hx : a.eval x = .agg (bv xs).toArray) (hy : a.eval y = .agg (bv ys).toArray) (hl : xs.length = 32) (hl2 : ys.length = 32)
    (h : wpList Tryz.prog ops Q rest (a.put o.dst (.slice (some ⟨w.heap.size, 0, none⟩) 2 2)) (w.alloc (.cells (bv (xs ++ ys)).toArray 23))) : wpList Tryz.prog ops Q (o :: rest) a w := by
  refine wpList_step fun K hK => ?_
  rw [if_pos hw]
  have e : (execOp a.eval o).run Tryz.prog w = .ok (.value (.slice (some ⟨w.heap.size, 0, none⟩) 2 2)) (w.alloc (.cells (bv (xs ++ ys)).toArray 23)) := by
    unfold execOp
    simp only [ho, List.map_toArray, List.map_cons, List.map_nil, hx, hy, Sem.run_bind]
    rw [run_build2 xs ys hl hl2 w]
    rfl
  unfold Oper.wp
  rw [e]
  exact hK _ _ h
theorem two_src {w : World} {b : Nat} {xs ys : List Int} {t : TypeId} (h : Blk w b (bv (xs ++ ys)).toArray t) (hx : xs.length = 32) (hy : ys.length = 32) : SrcL w (some ⟨b, 0, none⟩) 2 2 [xs, ys] :=
  ⟨rfl, Nat.le_refl _, by decide, .inr ⟨b, 0, rfl, h.lt, by have := bytes_run h; simpa using this⟩⟩
end Go.Proofs.YtjdkdhpippapmaaGreatDoor
namespace Go.Proofs.YtjdkdhpippapmaaGreatDoor
open Go.RowKit
set_option linter.unusedVariables false
set_option linter.unusedSimpArgs false

structure ExR (x n u v : Int) (bs : List Int) (key r pt h c y s S z : Int) : Prop where
  hkey : IsPw 4 x key
  hr : IsPw 4 n r
  ek : elB key = true
  er : elB r = true
  bp : IsBp key r u v pt
  ch : IsCh pt key bs h
  hc : modQ (h + v) = c
  hy : modQ (c * x) = y
  hs : modQ (n + y) = s
  hS : modQ (s + u) = S
  ver : IsVer key bs h S true
  sd : IsSides key r c s z z
theorem exR (x n u v : Int) (bs : List Int) : ∃ key r pt h c y s S z, ExR x n u v bs key r pt h c y s S z := by
  obtain ⟨key, hkey⟩ := isPw 4 x
  obtain ⟨r, hr⟩ := isPw 4 n
  have ek := powZ_el elB_4 x
  have er := powZ_el elB_4 n
  rw [hkey.eq] at ek
  rw [hr.eq] at er
  obtain ⟨pt, hp⟩ := isBp key r u v
  obtain ⟨h, hh⟩ := isCh pt key bs
  obtain ⟨c, hc⟩ : ∃ c, modQ (h + v) = c := ⟨_, rfl⟩
  obtain ⟨y, hy⟩ : ∃ y, modQ (c * x) = y := ⟨_, rfl⟩
  obtain ⟨s, hs⟩ : ∃ s, modQ (n + y) = s := ⟨_, rfl⟩
  obtain ⟨S, hS⟩ : ∃ S, modQ (s + u) = S := ⟨_, rfl⟩
  have ht := tr_right (x := x) (n := n) (c := c) (s := s) (by rw [← hs, ← hy]; unfold modQ; generalize c * x = t; omega)
  rw [hkey.eq, hr.eq] at ht
  have hpt := tr_point ek er ht (h := h) (v := v) (u := u) (S := S) (by rw [← hc]; unfold modQ; omega) (by rw [← hS]; unfold modQ; omega)
  rw [hp.eq] at hpt
  exact ⟨key, r, pt, h, c, y, s, S, _, hkey, hr, ek, er, hp, hh, hc, hy, hs, hS, .mk ek hh.rng (by rw [← hS]; exact modQ_rng _) (by rw [hpt]; exact hh), ⟨ht, rfl⟩⟩
set_option maxHeartbeats 400000 in
theorem esec_is (s : Int) (w : World) (h : Hid (secB s = true)) : Calls Tryz.prog 46 #[.int .i64 s] w fun e w' => e = .returned (.bool true) ∧ w = w' := by
  obtain ⟨h1, h2⟩ := secB_iff.1 h.out
  go_enter Tryz.func46, Tryz.ntmps46
  go_wp2_with fail
  go_ret
  exact ⟨rfl, rfl⟩
set_option maxHeartbeats 400000 in
theorem epow_is (a n r : Int) (w : World) (h : Hid (IsPw a n r)) (ha : Hid (IsPe a 0)) : Calls Tryz.prog 47 #[.int .i64 a, .int .i64 n] w fun e w' => e = .returned (.int .i64 r) ∧ Below w.heap.size w w' := by
  go_enter Tryz.func47, Tryz.ntmps47
  go_wp2_with (go_at_call 74; refine (pow_is a n r _ h ha).mono ?_; rintro e w1 ⟨rfl, hb⟩)
  go_ret
  exact ⟨rfl, hb⟩
set_option maxHeartbeats 400000 in
theorem pub_is (x key : Int) (w : World) (hx : Hid (secB x = true)) (h : Hid (IsPw 4 x key)) : Calls Tryz.prog 19 #[.int .i64 x] w fun e w' => e = .returned (.tuple #[.int .i64 key, .int .i64 0]) ∧ Below w.heap.size w w' := by
  go_enter Tryz.func19, Tryz.ntmps19
  go_wp2_with (first
    | (go_at_call 46; refine (esec_is x _ hx).mono ?_; rintro e w' ⟨rfl, rfl⟩)
    | (go_at_call 47; refine (epow_is 4 x key _ h (Lib.hid pe4)).mono ?_; rintro e w1 ⟨rfl, hb⟩))
  go_ret2
  exact ⟨rfl, hb⟩
theorem results_c4 {P : Program} {fn : Func} {p q1 q2 q3 q4 : Tmp} {ty : TypeId} {a : Addr} {v : Value} {w : World} (h : fn.results = #[.cell p ty, .tmp q1, .tmp q2, .tmp q3, .tmp q4]) (tmps : Array Value) (hp : tmps.getD p undef = .pointer (some a))
    (hl : (loadVar ty a).run P w = .ok v w) : (results fn tmps).run P w = .ok (.tuple #[v, tmps.getD q1 undef, tmps.getD q2 undef, tmps.getD q3 undef, tmps.getD q4 undef]) w := by
  have hp' : tmps[p]?.getD undef = .pointer (some a) := by simpa using hp
  simp only [results, h]
  simp [Sem.run_bind, Result.andThen, hp', asAddr, hl]
set_option maxRecDepth 100000 in
set_option maxHeartbeats 4000000 in
theorem issued_is (x m : Int) (zs : List Int) (n u v key r pt h c y s S z : Int) (w : World) (hl : Hid (zs.length = 32)) (hr : Hid (∀ z ∈ zs, 0 ≤ z ∧ z ≤ 255)) (hn : Hid (valB n = true)) (hx : Hid (secB x = true)) (hm : Hid (secB m = true)) (hk : Hid (KeysAt w)) (hex : Hid (ExR x m u v (encL [.text zs, .int n]) key r pt h c y s S z)) :
    Calls Tryz.prog 21 #[.int .i64 x, .int .i64 m, .agg (bv zs).toArray, .int .i64 n, .int .i64 u, .int .i64 v] w fun e w' => e = .returned (.tuple #[.agg (stv zs n h S).toArray, .int .i64 r, .int .i64 c, .int .i64 s, .bool true]) ∧ Below w.heap.size w w' := by
  have HKEY := Lib.hid hex.out.hkey; have HR := Lib.hid hex.out.hr; have HEK := Lib.hid hex.out.ek; have HER := Lib.hid hex.out.er; have HBP := Lib.hid hex.out.bp; have HCH := Lib.hid hex.out.ch; have HC := Lib.hid hex.out.hc; have HY := Lib.hid hex.out.hy; have HSS := Lib.hid hex.out.hs; have HS := Lib.hid hex.out.hS; have HV := Lib.hid hex.out.ver
  have HOK := Lib.hid (st_ok hl.out hr.out hn.out)
  have HTX := Lib.hid (st_tx hl.out HOK.out)
  have DB := Lib.hid ((Dg.box w hl.out).alloc (.cells #[.int .u8 0, .int .u8 0, .int .u8 0, .int .u8 0, .int .u8 0, .int .u8 0, .int .u8 0, .int .u8 0, .int .u8 0, .int .u8 0, .int .u8 0, .int .u8 0, .int .u8 0, .int .u8 0, .int .u8 0, .int .u8 0, .int .u8 0, .int .u8 0, .int .u8 0, .int .u8 0, .int .u8 0, .int .u8 0, .int .u8 0, .int .u8 0, .int .u8 0, .int .u8 0, .int .u8 0, .int .u8 0, .int .u8 0, .int .u8 0, .int .u8 0, .int .u8 0, .int .i64 0, .int .i64 0, .int .i64 0] 27))
  have RB := Lib.hid (show SBlk ((w.alloc (.cells (bv zs).toArray 23)).alloc (.cells #[.int .u8 0, .int .u8 0, .int .u8 0, .int .u8 0, .int .u8 0, .int .u8 0, .int .u8 0, .int .u8 0, .int .u8 0, .int .u8 0, .int .u8 0, .int .u8 0, .int .u8 0, .int .u8 0, .int .u8 0, .int .u8 0, .int .u8 0, .int .u8 0, .int .u8 0, .int .u8 0, .int .u8 0, .int .u8 0, .int .u8 0, .int .u8 0, .int .u8 0, .int .u8 0, .int .u8 0, .int .u8 0, .int .u8 0, .int .u8 0, .int .u8 0, .int .u8 0, .int .i64 0, .int .i64 0, .int .i64 0] 27)) (w.heap.size + 1) 27 (List.replicate 32 0) 0 0 0 by have := SBlk.new (w.alloc (.cells (bv zs).toArray 23)) 27; simpa using this)
  have B0 := Lib.hid (show Below w.heap.size w ((w.alloc (.cells (bv zs).toArray 23)).alloc (.cells #[.int .u8 0, .int .u8 0, .int .u8 0, .int .u8 0, .int .u8 0, .int .u8 0, .int .u8 0, .int .u8 0, .int .u8 0, .int .u8 0, .int .u8 0, .int .u8 0, .int .u8 0, .int .u8 0, .int .u8 0, .int .u8 0, .int .u8 0, .int .u8 0, .int .u8 0, .int .u8 0, .int .u8 0, .int .u8 0, .int .u8 0, .int .u8 0, .int .u8 0, .int .u8 0, .int .u8 0, .int .u8 0, .int .u8 0, .int .u8 0, .int .u8 0, .int .u8 0, .int .i64 0, .int .i64 0, .int .i64 0] 27)) from (bel_alloc1 w _).alloc (by simp) _)
  go_enter Tryz.func21, Tryz.ntmps21
  go_upto_region 1 with fail
  generalize hW : World.alloc _ _ = W0 at DB RB B0 ⊢
  clear hW
  go_wp2_with (first
    | (go_at_call 19; refine (pub_is x key _ hx HKEY).mono ?_; rintro e w1 ⟨rfl, hb⟩; have B1 := Lib.hid (bel_trans B0.out hb); have D1 := Lib.hid (DB.out.bel hb); have R1 := Lib.hid (RB.out.bel hb); clear hb)
    | (go_at_call 48; refine (begin_yes m r _ hm HR).mono ?_; rintro e w2 ⟨rfl, hb⟩; have B2 := Lib.hid (bel_trans B1.out hb); have D2 := Lib.hid (D1.out.bel hb); have R2 := Lib.hid (R1.out.bel hb); clear hb)
    | (refine list_loadD (by rfl) (.tmp 8) rfl w.heap.size rfl zs D2.out ?_)
    | (go_at_call 9; refine (sask_yes key r zs n u v _ hl hn HOK HTX HEK HER (Lib.hid (hk.out.below B2.out)) pt h c HBP HCH HC).mono ?_; rintro e w3 ⟨rfl, hb⟩; have B3 := Lib.hid (bel_trans B2.out hb); have D3 := Lib.hid (D2.out.bel hb); have R3 := Lib.hid (R2.out.bel hb); clear hb)
    | (go_at_call 49; refine (answer_yes x m c y s _ hx hm HY HSS).mono ?_; rintro e w4 ⟨rfl, hb⟩; have B4 := Lib.hid (bel_trans B3.out hb); have D4 := Lib.hid (D3.out.bel hb); have R4 := Lib.hid (R3.out.bel hb); clear hb)
    | (refine list_loadD (by rfl) (.tmp 8) rfl w.heap.size rfl zs D4.out ?_)
    | (go_at_call 11; refine (stake_yes key r zs n u v s _ hl hn HOK HTX HEK HER (Lib.hid (hk.out.below B4.out)) pt h S HBP HCH HS HV).mono ?_; rintro e w5 ⟨rfl, hb⟩; have B5 := Lib.hid (bel_trans B4.out hb); have R5 := Lib.hid (R4.out.bel hb); clear hb)
    | (refine list_storeApi rfl (.tmp 12) (.tmp 59) rfl (w.heap.size + 1) rfl zs n h S rfl hl.out 27 _ _ _ _ R5.out ?_))
  intro w6 q6 k6
  have Q6 := Lib.hid q6
  have B6 := Lib.hid (B5.out.trans (k6.below (by omega)))
  clear q6 k6
  go_wp2_with (first
    | (refine list_loadApi (by rfl) (.tmp 12) rfl (w.heap.size + 1) 0 rfl zs n h S hl.out Q6.out.1.range ?_)
    | (refine list_storeApi rfl (.tmp 12) (.tmp 61) rfl (w.heap.size + 1) rfl zs n h S rfl hl.out 27 _ _ _ _ Q6.out ?_))
  intro w7 q7 k7
  have Q7 := Lib.hid q7
  have B7 := Lib.hid (B6.out.trans (k7.below (by omega)))
  clear q7 k7
  go_wp2_with fail
  refine bodyPost_ret (v := .tuple #[.agg (stv zs n h S).toArray, .int .i64 r, .int .i64 c, .int .i64 s, .bool true]) (results_c4 (a := ⟨w.heap.size + 1, 0, none⟩) Tryz.results21 _ rfl (load_st Q7.out)) rfl ⟨rfl, B7.out⟩
end Go.Proofs.YtjdkdhpippapmaaGreatDoor
namespace Go.Proofs.YtjdkdhpippapmaaGreatDoor
open Go.RowKit
set_option linter.unusedVariables false
set_option linter.unusedSimpArgs false

def d1 : List Int := 1 :: List.replicate 31 0
def d2 : List Int := 0 :: 7 :: List.replicate 30 0
theorem SBlk.setN {w : World} {b : Nat} {t : TypeId} {zs : List Int} {n c s : Int} (q : SBlk w b t zs n c s) (m : Int) : SBlk (w.setCell ⟨b, 32, none⟩ (.int .i64 m)) b t zs m c s := by
  refine ⟨?_, q.2⟩
  have e : ((stv zs n c s).toArray).setIfInBounds 32 (.int .i64 m) = (stv zs m c s).toArray := by
    have hz := q.2
    clear q
    obtain ⟨z0, z1, z2, z3, z4, z5, z6, z7, z8, z9, z10, z11, z12, z13, z14, z15, z16, z17, z18, z19, z20, z21, z22, z23, z24, z25, z26, z27, z28, z29, z30, z31, rfl⟩ := list32 zs hz
    rfl
  rw [← e]
  exact q.1.set 32 _
theorem d1_rng : ∀ z ∈ d1, 0 ≤ z ∧ z ≤ 255 := by
  intro z hz
  rcases List.mem_cons.1 hz with rfl | h
  · omega
  · have := (List.mem_replicate.1 h).2; omega
theorem d2_rng : ∀ z ∈ d2, 0 ≤ z ∧ z ≤ 255 := by
  intro z hz
  rcases List.mem_cons.1 hz with rfl | h
  · omega
  · rcases List.mem_cons.1 h with rfl | h
    · omega
    · have := (List.mem_replicate.1 h).2; omega
theorem adj_one (o : List Int) : adjOK [o] := fun j hj => by simp at hj
theorem pos_one {o d : List Int} (h : ltD o d = true) : IsPos [o] d 1 := by
  refine ⟨Nat.le_refl _, fun q hq => ?_, fun q h1 h2 => ?_⟩
  · obtain rfl : q = 0 := by omega
    exact h
  · have : q < 1 := h2
    omega
theorem has_one {o d : List Int} (h : ltD o d = true) : hasD [o] d = false := by
  cases hq : hasD [o] d with
  | false => rfl
  | true =>
    unfold hasD at hq
    rw [List.contains_iff_mem, List.mem_singleton] at hq
    rw [hq, ltD_irrefl] at h; cases h
theorem adj_two {o d : List Int} (h : ltD o d = true) : adjOK (putD [o] d 1) := fun j hj => by
  obtain rfl : j = 0 := by have : j + 1 < 2 := hj; omega
  exact h
theorem pos_two {o d : List Int} (h : ltD o d = true) : IsPos (putD [o] d 1) d 1 := by
  refine ⟨by have : (putD [o] d 1).length = 2 := rfl; omega, fun q hq => ?_, fun q h1 h2 => ?_⟩
  · obtain rfl : q = 0 := by omega
    exact h
  · have : q < 2 := h2
    obtain rfl : q = 1 := by omega
    exact ltD_irrefl d
theorem has_two (o d : List Int) : hasD (putD [o] d 1) d = true := by unfold hasD putD; rw [List.contains_iff_mem]; simp
theorem ver_bad (key : Int) (bs : List Int) (e s : Int) (hk : elB key = false) : IsVer key bs e s false := by
  obtain ⟨v, c, hc, hv⟩ := isVer key bs e s
  exact ⟨c, hc, by rw [hk]; rfl⟩
set_option maxRecDepth 100000 in
set_option maxHeartbeats 4000000 in
theorem sane37_any (w : World) (hk : Hid (KeysAt w)) : Calls Tryz.prog 8 #[] w fun e w' => e = .returned (.bool true) ∧ Below w.heap.size w w' := by
  obtain ⟨key, r, pt, h, c, y, s, S, z, hex⟩ := exR 5 9 3 4 (encL [.text d1, .int 20])
  have HEX := Lib.hid hex
  have HKEY := Lib.hid hex.hkey
  have HVT := Lib.hid (show IsChk key d1 20 h S true from .inr ⟨by decide, hex.ver⟩)
  have HV2 := Lib.hid (show IsChk 2 d1 20 h S false from .inr ⟨by decide, ver_bad 2 _ h S elB_2⟩)
  have HVB := Lib.hid (show IsChk key d1 (-1) h S false from .inl ⟨by decide, rfl⟩)
  have HL := Lib.hid (show d1.length = 32 from rfl)
  have HR := Lib.hid d1_rng
  have HLO := Lib.hid (show d2.length = 32 from rfl)
  have HRO := Lib.hid d2_rng
  have EQ := eqDig_same d1 HL.out
  clear hex
  go_enter Tryz.func8, Tryz.ntmps8
  go_upto_region 2 with (first
    | (refine list_storeD rfl (.tmp 1) (.tmp 27) rfl w.heap.size rfl d1 rfl rfl (List.replicate 32 0) ((Dg.new w).alloc _) ?_))
  intro w1 q1 k1
  have D1 := Lib.hid q1
  have O1 := Lib.hid (show Dg w1 (w.heap.size + 1) (List.replicate 32 0) from Dg.wrote (by have := Dg.new (w.alloc (.cells #[.int .u8 0, .int .u8 0, .int .u8 0, .int .u8 0, .int .u8 0, .int .u8 0, .int .u8 0, .int .u8 0, .int .u8 0, .int .u8 0, .int .u8 0, .int .u8 0, .int .u8 0, .int .u8 0, .int .u8 0, .int .u8 0, .int .u8 0, .int .u8 0, .int .u8 0, .int .u8 0, .int .u8 0, .int .u8 0, .int .u8 0, .int .u8 0, .int .u8 0, .int .u8 0, .int .u8 0, .int .u8 0, .int .u8 0, .int .u8 0, .int .u8 0, .int .u8 0] 23)); simpa using this) k1 (by omega))
  have B1 := Lib.hid (show Below w.heap.size w w1 from ((bel_alloc1 w _).alloc (by simp) _).trans (k1.below (Nat.le_refl _)))
  clear q1 k1
  go_upto_region 2 with (first
    | (refine list_storeD rfl (.tmp 2) (.tmp 28) rfl (w.heap.size + 1) rfl d2 rfl rfl _ O1.out ?_))
  intro w2 q2 k2
  have O2 := Lib.hid q2
  have D2 := Lib.hid (D1.out.wrote k2 (by omega))
  have B2 := Lib.hid (B1.out.trans (k2.below (by omega)))
  have hB2 := B2.out.size
  clear q2 k2 D1 O1 B1
  obtain ⟨dd, hdd⟩ : ∃ x, d1 = x := ⟨_, rfl⟩
  obtain ⟨oo, hoo⟩ : ∃ x, d2 = x := ⟨_, rfl⟩
  have HDD := Lib.hid hdd
  have HOO := Lib.hid hoo
  have HLT := Lib.hid (show ltD d2 d1 = true by decide)
  clear hdd hoo
  rw [HDD.out, HOO.out] at HLT
  rw [HDD.out] at D2 HEX HVT HV2 HVB HL HR EQ
  rw [HOO.out] at O2 HLO HRO
  go_wp2_with (first
    | (go_at_call 19; refine (pub_is 5 key _ (Lib.hid (by decide)) HKEY).mono ?_; rintro e w3 ⟨rfl, hb⟩; have D3 := Lib.hid (D2.out.bel hb); have O3 := Lib.hid (O2.out.bel hb); have B3 := Lib.hid (bel_trans B2.out hb); clear hb)
    | (refine list_loadD (by rfl) (.tmp 1) rfl w.heap.size rfl dd D3.out ?_)
    | (go_at_call 21; refine (issued_is 5 9 dd 20 3 4 key r pt h c y s S z _ HL HR (Lib.hid (by decide)) (Lib.hid (by decide)) (Lib.hid (by decide)) (Lib.hid (hk.out.below B3.out)) HEX).mono ?_; rintro e w4 ⟨rfl, hb⟩; have D4 := Lib.hid (D3.out.bel hb); have O4 := Lib.hid (O3.out.bel hb); have B4 := Lib.hid (bel_trans B3.out hb); clear hb)
    | (refine list_storeApi rfl (.tmp 5) (.tmp 36) rfl w4.heap.size rfl dd 20 h S rfl HL.out 27 (List.replicate 32 0) 0 0 0 (SBlk.new w4 _) ?_))
  intro w5 q5 k5
  have K5 := Lib.hid ((bel_alloc1 w4 _).trans (k5.below (Nat.le_refl _)))
  have X5 := Lib.hid q5
  have D5 := Lib.hid (D4.out.bel K5.out)
  have O5 := Lib.hid (O4.out.bel K5.out)
  have B5 := Lib.hid (bel_trans B4.out K5.out)
  have hB5 := B4.out.size
  clear q5 k5 K5
  obtain ⟨sb, hsb⟩ : ∃ q, w4.heap.size = q := ⟨_, rfl⟩
  rw [hsb] at X5 hB5 ⊢
  have cN5 := X5.out.cell
  have cS5 := X5.out.sig
  go_wp2_with (first
    | (refine list_loadM (by rfl) (.tmp 48) rfl sb 0 rfl dd X5.out.bytes HL.out ?_)
    | (refine list_loadD (by rfl) (.tmp 1) rfl w.heap.size rfl dd D5.out ?_)
    | (refine list_loadApi (by rfl) (.tmp 5) rfl sb 0 rfl dd 20 h S HL.out X5.out.1.range ?_)
    | (go_at_call 13; with_reducible refine (scheck_any key dd 20 h S true _ HL HR (Lib.hid (hk.out.below B5.out)) HVT).mono ?_; rintro e wa ⟨rfl, hb⟩; have D6 := Lib.hid (D5.out.bel hb); have O6 := Lib.hid (O5.out.bel hb); have B6 := Lib.hid (bel_trans B5.out hb); have X6 := Lib.hid (X5.out.bel hb); have cNa := X6.out.cell; clear hb)
    | (refine list_loadApi (by rfl) (.tmp 5) rfl sb 0 rfl dd 20 h S HL.out X6.out.1.range ?_)
    | (go_at_call 13; with_reducible refine (scheck_any 2 dd 20 h S false _ HL HR (Lib.hid (hk.out.below B6.out)) HV2).mono ?_; rintro e wb ⟨rfl, hb⟩; have D7 := Lib.hid (D6.out.bel hb); have O7 := Lib.hid (O6.out.bel hb); have B7 := Lib.hid (bel_trans B6.out hb); have X7 := Lib.hid (X6.out.bel hb); clear hb)
    | (refine list_loadApi (by rfl) (.tmp 5) rfl sb 0 rfl dd 20 h S HL.out X7.out.1.range ?_)
    | (refine list_storeApi rfl (.tmp 10) (.tmp 68) rfl wb.heap.size rfl dd 20 h S rfl HL.out 27 (List.replicate 32 0) 0 0 0 (SBlk.new wb _) ?_))
  intro wc qc kc
  have Kc := Lib.hid ((bel_alloc1 wb _).trans (kc.below (Nat.le_refl _)))
  have Y8 := Lib.hid qc
  have D8 := Lib.hid (D7.out.bel Kc.out)
  have O8 := Lib.hid (O7.out.bel Kc.out)
  have X8 := Lib.hid (X7.out.bel Kc.out)
  have B8 := Lib.hid (bel_trans B7.out Kc.out)
  have hBc := B7.out.size
  have hXc := X7.out.lt
  have hDc := O7.out.lt
  clear qc kc Kc
  obtain ⟨bb, hbb⟩ : ∃ q, wb.heap.size = q := ⟨_, rfl⟩
  rw [hbb] at Y8 hBc hXc hDc ⊢
  have cY := Y8.out.cell
  have fY := Y8.out.1.frozen 32
  go_upto_region 8 with fail
  clear cY fY
  have Y9 := Lib.hid (Y8.out.setN (-1))
  have D9 := Lib.hid (show Dg (wc.setCell ⟨bb, 32, none⟩ (.int .i64 (-1))) w.heap.size dd from ⟨D8.out.1.other 32 _ (by omega), D8.out.2⟩)
  have O9 := Lib.hid (show Dg (wc.setCell ⟨bb, 32, none⟩ (.int .i64 (-1))) (w.heap.size + 1) oo from ⟨O8.out.1.other 32 _ (by omega), O8.out.2⟩)
  have X9 := Lib.hid (X8.out.other 32 (.int .i64 (-1)) (show sb ≠ bb by omega))
  have B9 := Lib.hid (B8.out.setCell (p := ⟨bb, 32, none⟩) (show w.heap.size ≤ bb by omega) (.int .i64 (-1)))
  clear D8 O8 X8 B8 Y8
  generalize World.setCell wc _ _ = wd at *
  go_step
  refine list_loadD (by rfl) (.tmp 2) rfl (w.heap.size + 1) rfl oo O9.out ?_
  simp only [Act.put, List.setIfInBounds_toArray, List.set_cons_succ, List.set_cons_zero]
  refine list_build1 (by rfl) (.tmp 71) rfl (bv oo) rfl (by rw [bv_len]; exact HLO.out) ?_
  simp only [Act.put, List.setIfInBounds_toArray, List.set_cons_succ, List.set_cons_zero]
  have KB := Lib.hid (bel_alloc1 wd (.cells (bv oo).toArray 23))
  have Z1 := Lib.hid (Dg.box wd HLO.out)
  generalize World.alloc wd _ = we at KB Z1 ⊢
  have D10 := Lib.hid (D9.out.bel KB.out)
  have O10 := Lib.hid (O9.out.bel KB.out)
  have B10 := Lib.hid (bel_trans B9.out KB.out)
  have X10 := Lib.hid (X9.out.bel KB.out)
  have Y10 := Lib.hid (Y9.out.bel KB.out)
  obtain ⟨xb, hxb⟩ : ∃ q, wd.heap.size = q := ⟨_, rfl⟩
  rw [hxb] at Z1 ⊢
  clear hxb
  have HSL := Lib.hid (show SrcL we (some ⟨xb, 0, none⟩) 1 1 [oo] from ⟨rfl, Nat.le_refl _, by decide, .inr ⟨xb, 0, rfl, Z1.out.lt, by simpa using Z1.out.bytes⟩⟩)
  have HDO := Lib.hid (show Dgs [oo] from Dgs.cons HLO.out HRO.out Dgs.nil)
  have HAD := Lib.hid (adj_one oo)
  have HPO := Lib.hid (pos_one HLT.out)
  have HNO := Lib.hid (has_one HLT.out)
  refine list_val (by rfl) (.int .i64 key) (by go_simp) ?_
  simp only [Act.put, List.setIfInBounds_toArray, List.set_cons_succ, List.set_cons_zero]
  refine list_loadApi (by rfl) (.tmp 5) rfl sb 0 rfl dd 20 h S HL.out X10.out.1.range ?_
  simp only [Act.put, List.setIfInBounds_toArray, List.set_cons_succ, List.set_cons_zero]
  go_upto_region 9 with (first
    | (go_at_call 16; refine (spend_ok key dd 20 h S [oo] _ 1 1 _ HL HR HDO HSL (by omega) (Lib.hid (hk.out.below B10.out)) HAD HVT 1 HPO HNO).mono ?_; rintro e wf ⟨v1, rfl, o1, hb⟩; have OW := Lib.hid o1; have D11 := Lib.hid (D10.out.bel hb); have O11 := Lib.hid (O10.out.bel hb); have B11 := Lib.hid (bel_trans B10.out hb); have X11 := Lib.hid (X10.out.bel hb); have Y11 := Lib.hid (Y10.out.bel hb); clear hb o1))
  have HDP := Lib.hid (show Dgs (putD [oo] dd 1) from HDO.out.put HL.out HR.out 1)
  have hpl : (putD [oo] dd 1).length = 2 := rfl
  obtain ⟨up, uc, hv1, hus⟩ := ownR_src HDP.out OW.out
  subst v1
  rw [hpl] at hus ⊢
  have U11 := Lib.hid hus
  clear hus OW hpl HSL HPO HNO HDO HAD
  have HAP := Lib.hid (adj_two HLT.out)
  have HPP := Lib.hid (pos_two HLT.out)
  have HHP := Lib.hid (has_two oo dd)
  go_upto_region 10 with (first
    | (refine list_loadApi (by rfl) (.tmp 5) rfl sb 0 rfl dd 20 h S HL.out X11.out.1.range ?_)
    | (go_at_call 16; refine (spend_found key dd 20 h S (putD [oo] dd 1) up 2 uc _ HL HR HDP U11 (by omega) (Lib.hid (hk.out.below B11.out)) HAP HVT 1 HPP HHP).mono ?_; rintro e wg ⟨rfl, hb⟩; have D12 := Lib.hid (D11.out.bel hb); have O12 := Lib.hid (O11.out.bel hb); have B12 := Lib.hid (bel_trans B11.out hb); have X12 := Lib.hid (X11.out.bel hb); have Y12 := Lib.hid (Y11.out.bel hb); have U12 := Lib.hid (U11.out.below hb); clear hb))
  go_step
  refine list_loadD (by rfl) (.tmp 1) rfl w.heap.size rfl dd D12.out ?_
  simp only [Act.put, List.setIfInBounds_toArray, List.set_cons_succ, List.set_cons_zero]
  refine list_loadD (by rfl) (.tmp 1) rfl w.heap.size rfl dd D12.out ?_
  simp only [Act.put, List.setIfInBounds_toArray, List.set_cons_succ, List.set_cons_zero]
  refine list_build2 (by rfl) (.tmp 86) (.tmp 87) rfl dd dd rfl rfl HL.out HL.out ?_
  simp only [Act.put, List.setIfInBounds_toArray, List.set_cons_succ, List.set_cons_zero]
  have KC := Lib.hid (bel_alloc1 wg (.cells (bv (dd ++ dd)).toArray 23))
  have Z2 := Lib.hid (two_src (Blk.new wg (bv (dd ++ dd)).toArray 23) HL.out HL.out)
  generalize World.alloc wg _ = wh at KC Z2 ⊢
  have D13 := Lib.hid (D12.out.bel KC.out)
  have O13 := Lib.hid (O12.out.bel KC.out)
  have B13 := Lib.hid (bel_trans B12.out KC.out)
  have X13 := Lib.hid (X12.out.bel KC.out)
  have Y13 := Lib.hid (Y12.out.bel KC.out)
  have U13 := Lib.hid (U12.out.below KC.out)
  have HD2 := Lib.hid (show Dgs [dd, dd] from Dgs.cons HL.out HR.out (Dgs.cons HL.out HR.out Dgs.nil))
  have HU2 := Lib.hid (show ¬ adjOK [dd, dd] from fun h => by have := h 0 (by simp); simp [ltD_irrefl] at this)
  refine list_val (by rfl) (.int .i64 key) (by go_simp) ?_
  simp only [Act.put, List.setIfInBounds_toArray, List.set_cons_succ, List.set_cons_zero]
  refine list_loadApi (by rfl) (.tmp 5) rfl sb 0 rfl dd 20 h S HL.out X13.out.1.range ?_
  simp only [Act.put, List.setIfInBounds_toArray, List.set_cons_succ, List.set_cons_zero]
  go_upto_region 11 with (first
    | (go_at_call 16; refine (spend_uns key dd 20 h S [dd, dd] _ 2 2 _ HL HR HD2 Z2 (by omega) (Lib.hid (hk.out.below B13.out)) HU2).mono ?_; rintro e wi ⟨rfl, hb⟩; have D14 := Lib.hid (D13.out.bel hb); have O14 := Lib.hid (O13.out.bel hb); have B14 := Lib.hid (bel_trans B13.out hb); have X14 := Lib.hid (X13.out.bel hb); have Y14 := Lib.hid (Y13.out.bel hb); have U14 := Lib.hid (U13.out.below hb); clear hb))
  clear Z2 HD2 HU2 KC
  have HSN := Lib.hid (show SrcL wi none 0 0 [] from ⟨rfl, Nat.le_refl _, by decide, .inl ⟨rfl, fun _ => rfl⟩⟩)
  have HAN := Lib.hid (show adjOK [] from fun j hj => by simp at hj)
  go_upto_region 12 with (first
    | (refine list_loadApi (by rfl) (.tmp 5) rfl sb 0 rfl dd 20 h S HL.out X14.out.1.range ?_)
    | (go_at_call 16; refine (spend_wrong 2 dd 20 h S [] none 0 0 _ HL HR (Lib.hid Dgs.nil) HSN (by omega) (Lib.hid (hk.out.below B14.out)) HAN HV2).mono ?_; rintro e wj ⟨rfl, hb⟩; have D15 := Lib.hid (D14.out.bel hb); have O15 := Lib.hid (O14.out.bel hb); have B15 := Lib.hid (bel_trans B14.out hb); have X15 := Lib.hid (X14.out.bel hb); have Y15 := Lib.hid (Y14.out.bel hb); have U15 := Lib.hid (U14.out.below hb); clear hb))
  go_upto_region 13 with (first
    | (refine list_loadD (by rfl) (.tmp 1) rfl w.heap.size rfl dd D15.out ?_)
    | (go_at_call 9; refine (sask_no 4 4 dd (-1) 0 0 _ HL (Lib.hid (by decide))).mono ?_; rintro e wk ⟨rfl, hb⟩; have D16 := Lib.hid (D15.out.bel hb); have O16 := Lib.hid (O15.out.bel hb); have B16 := Lib.hid (bel_trans B15.out hb); have X16 := Lib.hid (X15.out.bel hb); have Y16 := Lib.hid (Y15.out.bel hb); have U16 := Lib.hid (U15.out.below hb); clear hb))
  go_wp2_with (first
    | (refine list_loadD (by rfl) (.tmp 1) rfl w.heap.size rfl dd D16.out ?_)
    | (go_at_call 11; refine (stake_no 4 4 dd 1099511627777 0 0 0 _ HL (Lib.hid (by decide))).mono ?_; rintro e wl ⟨rfl, hb⟩; have D17 := Lib.hid (D16.out.bel hb); have O17 := Lib.hid (O16.out.bel hb); have B17 := Lib.hid (bel_trans B16.out hb); have X17 := Lib.hid (X16.out.bel hb); have Y17 := Lib.hid (Y16.out.bel hb); have U17 := Lib.hid (U16.out.below hb); clear hb)
    | (refine list_storeApi rfl (.tmp 21) (.tmp 107) rfl wl.heap.size rfl (List.replicate 32 0) 0 0 0 rfl rfl 27 (List.replicate 32 0) 0 0 0 (SBlk.new wl _) ?_))
  intro wl' qwl kwl
  have Kwl := Lib.hid ((bel_alloc1 wl _).trans (kwl.below (Nat.le_refl _)))
  clear qwl kwl
  have D18 := Lib.hid (D17.out.bel Kwl.out)
  have O18 := Lib.hid (O17.out.bel Kwl.out)
  have B18 := Lib.hid (bel_trans B17.out Kwl.out)
  have X18 := Lib.hid (X17.out.bel Kwl.out)
  have Y18 := Lib.hid (Y17.out.bel Kwl.out)
  have U18 := Lib.hid (U17.out.below Kwl.out)
  have H5 := Lib.hid (st_ok (n := 5) HL.out HR.out (by decide))
  go_wp2_with (first
    | (refine list_loadD (by rfl) (.tmp 1) rfl w.heap.size rfl dd D18.out ?_)
    | (go_at_call 11; refine (stake_el 2 4 dd 5 0 0 0 _ HL (Lib.hid (by decide)) H5 (Lib.hid (by rw [elB_2]; rfl))).mono ?_; rintro e wm ⟨rfl, hb⟩; have D19 := Lib.hid (D18.out.bel hb); have O19 := Lib.hid (O18.out.bel hb); have B19 := Lib.hid (bel_trans B18.out hb); have X19 := Lib.hid (X18.out.bel hb); have Y19 := Lib.hid (Y18.out.bel hb); have U19 := Lib.hid (U18.out.below hb); clear hb)
    | (refine list_storeApi rfl (.tmp 23) (.tmp 112) rfl wm.heap.size rfl (List.replicate 32 0) 0 0 0 rfl rfl 27 (List.replicate 32 0) 0 0 0 (SBlk.new wm _) ?_))
  intro wm' qwm kwm
  have Kwm := Lib.hid ((bel_alloc1 wm _).trans (kwm.below (Nat.le_refl _)))
  clear qwm kwm
  have D20 := Lib.hid (D19.out.bel Kwm.out)
  have O20 := Lib.hid (O19.out.bel Kwm.out)
  have B20 := Lib.hid (bel_trans B19.out Kwm.out)
  have X20 := Lib.hid (X19.out.bel Kwm.out)
  have Y20 := Lib.hid (Y19.out.bel Kwm.out)
  have U20 := Lib.hid (U19.out.below Kwm.out)
  go_upto_region 16 with (first
    | (refine list_loadD (by rfl) (.tmp 1) rfl w.heap.size rfl dd D20.out ?_)
    | (go_at_call 9; refine (sask_el 4 2 dd 5 0 0 _ HL (Lib.hid (by decide)) H5 (Lib.hid (by rw [elB_2, Bool.and_false]))).mono ?_; rintro e wn ⟨rfl, hb⟩; have D21 := Lib.hid (D20.out.bel hb); have O21 := Lib.hid (O20.out.bel hb); have B21 := Lib.hid (bel_trans B20.out hb); have X21 := Lib.hid (X20.out.bel hb); have Y21 := Lib.hid (Y20.out.bel hb); have U21 := Lib.hid (U20.out.below hb); clear hb))
  go_wp2_with (first
    | (refine list_loadD (by rfl) (.tmp 2) rfl (w.heap.size + 1) rfl oo O21.out ?_)
    | (refine list_loadD (by rfl) (.tmp 1) rfl w.heap.size rfl dd D21.out ?_; simp only [Act.put, List.setIfInBounds_toArray, List.set_cons_succ, List.set_cons_zero]; refine list_build2 (by rfl) (.tmp 151) (.tmp 152) rfl oo dd rfl rfl HLO.out HL.out ?_; have KE := Lib.hid (bel_alloc1 wn (.cells (bv (oo ++ dd)).toArray 23)); have Z3 := Lib.hid ((two_src (Blk.new wn (bv (oo ++ dd)).toArray 23) HLO.out HL.out).flat (Dgs.cons HLO.out HRO.out (Dgs.cons HL.out HR.out Dgs.nil))); have B22 := Lib.hid (bel_trans B21.out KE.out); have Y22 := Lib.hid (Y21.out.bel KE.out); have U22 := Lib.hid (U21.out.below KE.out); have Z4 := Lib.hid (U22.out.flat HDP.out))
    | (go_at_call 18; refine (rsame_any up _ 2 uc 2 [oo, dd].flatten _ Z4 Z3 (by omega)).mono ?_; rintro e wo ⟨rfl, hb⟩; have B23 := Lib.hid (bel_trans B22.out hb); have Y23 := Lib.hid (Y22.out.bel hb); clear hb)
    | (refine list_loadApi (by rfl) (.tmp 10) rfl bb 0 rfl dd (-1) h S HL.out Y23.out.1.range ?_)
    | (go_at_call 13; refine (scheck_any key dd (-1) h S false _ HL HR (Lib.hid (hk.out.below B23.out)) HVB).mono ?_; rintro e wp ⟨rfl, hb⟩; have B24 := Lib.hid (bel_trans B23.out hb); clear hb))
  go_ret
  exact ⟨rfl, B24.out⟩
end Go.Proofs.YtjdkdhpippapmaaGreatDoor
