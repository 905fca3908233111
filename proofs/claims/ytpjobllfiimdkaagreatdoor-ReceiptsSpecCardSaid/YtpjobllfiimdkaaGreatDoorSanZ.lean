/- What == says of two return addresses. Package elgamal: Read. Receipts: the law's checks of known letters. -/
import Derived.Test.YtpjobllfiimdkaaGreatDoorOntZB
import Derived.Test.YtpjobllfiimdkaaGreatDoorElgEqZ
import Derived.Test.YtpjobllfiimdkaaGreatDoorElgZD
import Derived.Test.YtpjobllfiimdkaaGreatDoorRecZA
namespace Go.Proofs.YtpjobllfiimdkaaGreatDoor
open Go.RowKit
set_option linter.unusedVariables false
set_option linter.unusedSimpArgs false

set_option maxRecDepth 100000 in
theorem rpart0 {zs : List Int} (h : zs.length = 32) (l k a b : Int) (w : World) : (part 3 (rtv l k a b zs).toArray 0).run Tryz.prog w = .ok (.int .i64 l) w := by
  obtain ⟨z0, z1, z2, z3, z4, z5, z6, z7, z8, z9, z10, z11, z12, z13, z14, z15, z16, z17, z18, z19, z20, z21, z22, z23, z24, z25, z26, z27, z28, z29, z30, z31, rfl⟩ := list32 zs h
  kernel_rfl
set_option maxRecDepth 100000 in
theorem rpart1 {zs : List Int} (h : zs.length = 32) (l k a b : Int) (w : World) : (part 3 (rtv l k a b zs).toArray 1).run Tryz.prog w = .ok (.int .i64 k) w := by
  obtain ⟨z0, z1, z2, z3, z4, z5, z6, z7, z8, z9, z10, z11, z12, z13, z14, z15, z16, z17, z18, z19, z20, z21, z22, z23, z24, z25, z26, z27, z28, z29, z30, z31, rfl⟩ := list32 zs h
  kernel_rfl
set_option maxRecDepth 100000 in
theorem rpart2 {zs : List Int} (h : zs.length = 32) (l k a b : Int) (w : World) : (part 25 (rtv l k a b zs).toArray 2).run Tryz.prog w = .ok (.agg #[.int .i64 a, .int .i64 b]) w := by
  obtain ⟨z0, z1, z2, z3, z4, z5, z6, z7, z8, z9, z10, z11, z12, z13, z14, z15, z16, z17, z18, z19, z20, z21, z22, z23, z24, z25, z26, z27, z28, z29, z30, z31, rfl⟩ := list32 zs h
  kernel_rfl
set_option maxRecDepth 100000 in
theorem rpart3 {zs : List Int} (h : zs.length = 32) (l k a b : Int) (w : World) : (part 27 (rtv l k a b zs).toArray 4).run Tryz.prog w = .ok (.agg (bv zs).toArray) w := by
  obtain ⟨z0, z1, z2, z3, z4, z5, z6, z7, z8, z9, z10, z11, z12, z13, z14, z15, z16, z17, z18, z19, z20, z21, z22, z23, z24, z25, z26, z27, z28, z29, z30, z31, rfl⟩ := list32 zs h
  kernel_rfl

set_option maxRecDepth 100000 in
theorem eqRt_any (l k a b : Int) (zs : List Int) (l' k' a' b' : Int) (ys : List Int) (h : zs.length = 32) (h' : ys.length = 32) (w : World) : (Op.equalIn 10000 29 (.agg (rtv l k a b zs).toArray) (.agg (rtv l' k' a' b' ys).toArray)).run Tryz.prog w = .ok ((l == l') && ((k == k') && ((a == a' && b == b') && decide (zs = ys)))) w := by
  obtain ⟨f0, f1, f2, f3, hU, o0, o1, o2, o3, t0, t1, t2, t3, n0, n1, n2, n3⟩ : ∃ f0 f1 f2 f3 : Field, Tryz.prog.underlying 29 = some (.struct #[f0, f1, f2, f3]) ∧ f0.offset = 0 ∧ f1.offset = 1 ∧ f2.offset = 2 ∧ f3.offset = 4 ∧ f0.type = 3 ∧ f1.type = 3 ∧ f2.type = 25 ∧ f3.type = 27 ∧ f0.name ≠ "_" ∧ f1.name ≠ "_" ∧ f2.name ≠ "_" ∧ f3.name ≠ "_" := ⟨_, _, _, _, Tryz.underlying29, rfl, rfl, rfl, rfl, rfl, rfl, rfl, rfl, by decide, by decide, by decide, by decide⟩
  have hF : (Tryz.prog.fieldsOf 29).toList = [f0, f1, f2, f3] := by simp [Program.fieldsOf, hU]
  have hint : Tryz.prog.underlying 3 = some (.int .i64) := Tryz.underlying3
  have e : ∀ (x y : Int) (w : World), (Op.equalIn 9999 3 (.int .i64 x) (.int .i64 y)).run Tryz.prog w = .ok (x == y) w := fun x y w => run_equalIn_int w 9998 _ _ _ x y hint
  have ec := eqCipher a b a' b'
  have ed := eqDig_d 9997 zs ys h h'
  rw [show (9997 + 1 + 1 : Nat) = 9999 from rfl] at ed
  rw [run_equalIn_struct w 9999 _ _ _ (by rw [hU]; simp [Program.fieldsOf, hU]) (by kernel_rfl), hF]
  simp only [Op.eqFields, n0, n1, n2, n3, o0, o1, o2, o3, t0, t1, t2, t3, ne_eq, not_false_eq_true, if_true, Sem.run_bind, rpart0 h, rpart0 h', Result.andThen_ok, e]
  by_cases h1 : l = l'
  case neg => simp [h1]
  simp only [h1, BEq.rfl, Bool.not_true, Bool.false_eq_true, if_false, Sem.run_bind, rpart1 h, rpart1 h', Result.andThen_ok, e, Bool.true_and]
  by_cases h2 : k = k'
  case neg => simp [h2]
  simp only [h2, BEq.rfl, Bool.not_true, Bool.false_eq_true, if_false, Sem.run_bind, rpart2 h, rpart2 h', Result.andThen_ok, ec, Bool.true_and]
  cases h3 : (a == a' && b == b') with
  | false => simp
  | true =>
    simp only [Bool.not_true, Bool.false_eq_true, if_false, Sem.run_bind, rpart3 h, rpart3 h', Result.andThen_ok, ed, Bool.true_and]
    by_cases h4 : zs = ys <;> simp [h4]
theorem exec_build {o : Oper} {ev : Operand → Value} (t : TypeId) (parts : Array (Nat × Operand)) (ho : o.op = .build t parts) (pv : List (Nat × Value)) (hp0 : (parts.toList.map fun (i, x) => (i, ev x)) = pv) (cs : Array Value) (hb : Tryz.prog.built t pv = some cs) (u : World) :
    (execOp ev o).run Tryz.prog u = .ok (.value (.agg cs)) u := by
  have hp : (parts.map fun (i, x) => (i, ev x)).toList = pv := by rw [Array.toList_map]; exact hp0
  unfold execOp
  simp only [ho, Sem.run_bind, run_build u t _ cs (by rw [hp]; exact hb), Result.andThen_ok]
  rfl
theorem eqRt_same (l k a b : Int) (zs : List Int) (h : zs.length = 32) (w : World) : (Op.equalIn 10000 29 (.agg (rtv l k a b zs).toArray) (.agg (rtv l k a b zs).toArray)).run Tryz.prog w = .ok true w := by
  rw [eqRt_any l k a b zs l k a b zs h h w]; simp
end Go.Proofs.YtpjobllfiimdkaaGreatDoor
namespace Go.Proofs.YtpjobllfiimdkaaGreatDoor
open Go.RowKit Go.Shelf
set_option linter.unusedVariables false
attribute [local go_sem] Oper.semAt_some

/-- three words -/
abbrev W3 := Int × Int × Int
abbrev wordsV (x : W3) : Value := .agg #[.int .i64 x.1, .int .i64 x.2.1, .int .i64 x.2.2]

def outW (pre : List Cip) : Array Value := pre.foldl (fun c x => c.setIfInBounds x.1.val (.int .i64 (numZ x.2.2))) #[.int .i64 0, .int .i64 0, .int .i64 0]
theorem outW_snoc (pre : List Cip) (x : Cip) : outW (pre ++ [x]) = (outW pre).setIfInBounds x.1.val (.int .i64 (numZ x.2.2)) := by simp [outW]
theorem outW_size (pre : List Cip) : (outW pre).size = 3 := by
  unfold outW
  have : ∀ (l : List Cip) (c : Array Value), c.size = 3 → (l.foldl (fun c x => c.setIfInBounds x.1.val (.int .i64 (numZ x.2.2))) c).size = 3 := by
    intro l
    induction l with
    | nil => intro c h; exact h
    | cons x l ih => intro c h; simp only [List.foldl]; exact ih _ (by simp [h])
  exact this _ _ rfl

theorem number_n (x : Int) (w : World) : Calls Tryz.prog 36 #[.int .i64 x] w fun e w' => e = .returned (.tuple #[.int .i64 (numZ x), .int .i64 (numE x)]) ∧ w = w' := gNumber_any x w

set_option maxRecDepth 100000 in
set_option maxHeartbeats 4000000 in
theorem read_yes (a0 b0 a1 b1 a2 b2 : Int) (w : World) (N : W3) (E : Int)
    (hc : chkE a0 b0 a1 b1 a2 b2 = 0) (HN : Hid (N = (numZ b0, numZ b1, numZ b2))) (HE : Hid (E = 0)) :
    CallsIn Fence.wide 5 Tryz.prog 12 #[sealedV a0 b0 a1 b1 a2 b2] w fun e w' => e = .returned (.tuple #[wordsV N, .int .i64 E]) ∧ Below w.heap.size w w' := by
  refine callsIn_of_wp_marks Tryz.func12 rfl trivial ?_ rfl
  simp only [Tryz.ntmps12, List.size_toArray, List.length_cons, List.length_nil, Nat.reduceAdd, Nat.reduceSub, Array.replicate_succ, Array.replicate_zero, List.push_toArray, List.append_toArray, List.nil_append, List.cons_append]
  gi_wp2
  refine ⟨trivial, ?_⟩
  refine (callsIn_wide.2 (check_any a0 b0 a1 b1 a2 b2 _)).mono ?_
  rintro e W ⟨rfl, hb⟩
  obtain ⟨W0, hW⟩ : ∃ W, (w.alloc (.cells #[.int .i64 a0, .int .i64 b0, .int .i64 a1, .int .i64 b1, .int .i64 a2, .int .i64 b2] 32)).alloc (.cells #[.int .i64 0, .int .i64 0, .int .i64 0] 23) = W := ⟨_, rfl⟩
  have hB : Below w.heap.size w W0 := by rw [← hW]; exact (bel_alloc1 _ _).alloc (by simp) _
  have k0 : Blk W0 w.heap.size #[.int .i64 a0, .int .i64 b0, .int .i64 a1, .int .i64 b1, .int .i64 a2, .int .i64 b2] 32 := by rw [← hW]; exact (Blk.new w _ _).alloc _
  have k1 : Blk W0 (w.heap.size + 1) #[.int .i64 0, .int .i64 0, .int .i64 0] 23 := by
    rw [← hW]; have h := Blk.new (w.alloc (.cells #[.int .i64 a0, .int .i64 b0, .int .i64 a1, .int .i64 b1, .int .i64 a2, .int .i64 b2] 32)) #[.int .i64 0, .int .i64 0, .int .i64 0] 23
    rw [World.size_alloc] at h; exact h
  rw [hW] at hb
  clear hW
  have K0 := Lib.hid (k0.below hb k0.lt); have K1 := Lib.hid (k1.below hb k1.lt); have KB := Lib.hid (bel_trans hB hb)
  clear k0 k1 hB hb
  · rw [hc]
    clear hc
    obtain ⟨c0, c1, c2, c3, c4, c5, _⟩ := blk6_facts K0.out
    gi_wp2
    refine ⟨trivial, ?_⟩
    refine (callsIn_wide.2 (ciphers_any _ _ _ _ _ _ W.heap.size _ rfl)).mono ?_; rintro e w' ⟨rfl, rfl⟩
    clear c0 c1 c2 c3 c4 c5
    gi_wp2
    obtain ⟨W1, hW1⟩ : ∃ W1, W.alloc (.cells #[.int .i64 a0, .int .i64 b0, .int .i64 a1, .int .i64 b1, .int .i64 a2, .int .i64 b2] 32) = W1 := ⟨_, rfl⟩
    have hB0 : Below w.heap.size w W1 := by rw [← hW1]; exact KB.out.alloc KB.out.size _
    have hsz : W1.heap.size = W.heap.size + 1 := by rw [← hW1]; simp
    have hgt : w.heap.size + 1 < W.heap.size := K1.out.lt
    have k1 : Blk W1 (w.heap.size + 1) (outW []) 23 := by rw [← hW1]; exact K1.out.alloc _
    have k3 : SixAt W1 W.heap.size a0 b0 a1 b1 a2 b2 := by rw [← hW1]; exact sixAt_new W 32 a0 b0 a1 b1 a2 b2
    rw [hW1]
    clear hW1
    refine wpIn_rangeFunc_ownH rfl (by omega) (gf := 69) (lb := #[.pointer (some ⟨W.heap.size, 0, none⟩)]) rfl trivial (enters_of Tryz.func69 (by kernel_rfl) rfl)
      (ciphers_stops a0 b0 a1 b1 a2 b2 4 (by omega) W.heap.size W1 (by omega) k3) walksK_t walksK_b (Below.refl _ _) (fun _ => rfl)
      (fun pre V => Blk V (w.heap.size + 1) (outW pre) 23 ∧ Below w.heap.size w V)
      (fun _ _ _ => False)
      (OwnFrom.and (blk_own outW) (ownFrom_below (Nat.le_refl _) (by omega)))
      (fun _ _ _ _ _ hs _ _ => hs)
      ⟨k1, hB0⟩
      (fun x a' V => ∃ Bc, w.heap.size + 1 < Bc ∧ Blk V Bc #[.int .i64 x.2.1, .int .i64 x.2.2] 25 ∧ a' = { tmps := #[sealedV a0 b0 a1 b1 a2 b2, .pointer (some ⟨w.heap.size, 0, none⟩), .pointer (some ⟨w.heap.size + 1, 0, none⟩), .int .i64 0, .int .i64 (x.1.val : Int), .pointer (some ⟨Bc, 0, none⟩), sealedV a0 b0 a1 b1 a2 b2, .int .i64 0, .int .i64 0, .bool false, undef, undef, sealedV a0 b0 a1 b1 a2 b2, .func (.func 69) #[] #[.pointer (some ⟨W.heap.size, 0, none⟩)], .int .i64 (x.1.val : Int), .agg #[.int .i64 x.2.1, .int .i64 x.2.2], undef, undef, undef, undef, undef, undef, undef, undef, undef], defers := [] })
      (fun x a' s X Y row h hg hr => by
        obtain ⟨Bc, h1, h2, h3⟩ := h
        exact ⟨Bc, h1, (blk_own (β := Unit) (B := W1.heap.size) fun _ => _) s X Y row h2 hg hr, h3⟩) ?assign ?body ?done ?stop
    case assign =>
      rintro l pre x V K ⟨j2, hB⟩ hK
      gi_wp2
      exact hK _ _ ((KeepsOthers.alloc _ _).from _) (KeepsWalks.alloc _ _) ⟨j2.alloc _, hB.alloc hB.size _⟩ ⟨V.heap.size, j2.lt, Blk.new _ _ _, rfl⟩
    case body =>
      rintro l pre ⟨i, A, B⟩ a' V hl hr ⟨j2, hB⟩ ⟨Bc, hBc, jc, rfl⟩ hlt
      have c1 := jc.cell 1
      simp at c1
      have J2 := Lib.hid j2; have HB := Lib.hid hB
      have hz3 := outW_size pre
      have e0 := fun o => (j2.cell o)
      have hfr := fun o => j2.frozen o
      have HSN := Lib.hid (outW_snoc pre (i, A, B))
      clear j2 jc hB hl hr hlt
      obtain ⟨iv, hiv⟩ := i
      have hiv2 : iv = 0 ∨ iv = 1 ∨ iv = 2 := by omega
      rcases hiv2 with rfl | rfl | rfl
      · have r0 := rc_some (w := V) (a := ⟨w.heap.size + 1, 0, none⟩) (by rw [e0]; exact ⟨_, Array.getElem?_eq_getElem (by omega)⟩)
        have g0 := hfr 0
        clear e0 hfr hz3
        dsimp only
        gi_wp2
        refine ⟨trivial, ?_⟩
        refine (CallsIn.inRound l (callsIn_wide.2 (number_n _ _))).mono ?_; rintro e w' ⟨rfl, rfl⟩
        gi_wp2
        exact ⟨(KeepsOthers.setCell _ _ _).from _, (KeepsOthers.setCell _ _ _).walks, ⟨by rw [HSN.out]; exact J2.out.set 0 _, HB.out.setCell (p := ⟨w.heap.size + 1, 0, none⟩) (by simp) _⟩⟩
      · have r0 := rc_some (w := V) (a := ⟨w.heap.size + 1, 1, none⟩) (by rw [e0]; exact ⟨_, Array.getElem?_eq_getElem (by omega)⟩)
        have g0 := hfr 1
        clear e0 hfr hz3
        dsimp only
        gi_wp2
        refine ⟨trivial, ?_⟩
        refine (CallsIn.inRound l (callsIn_wide.2 (number_n _ _))).mono ?_; rintro e w' ⟨rfl, rfl⟩
        gi_wp2
        exact ⟨(KeepsOthers.setCell _ _ _).from _, (KeepsOthers.setCell _ _ _).walks, ⟨by rw [HSN.out]; exact J2.out.set 1 _, HB.out.setCell (p := ⟨w.heap.size + 1, 1, none⟩) (by simp) _⟩⟩
      · have r0 := rc_some (w := V) (a := ⟨w.heap.size + 1, 2, none⟩) (by rw [e0]; exact ⟨_, Array.getElem?_eq_getElem (by omega)⟩)
        have g0 := hfr 2
        clear e0 hfr hz3
        dsimp only
        gi_wp2
        refine ⟨trivial, ?_⟩
        refine (CallsIn.inRound l (callsIn_wide.2 (number_n _ _))).mono ?_; rintro e w' ⟨rfl, rfl⟩
        gi_wp2
        exact ⟨(KeepsOthers.setCell _ _ _).from _, (KeepsOthers.setCell _ _ _).walks, ⟨by rw [HSN.out]; exact J2.out.set 2 _, HB.out.setCell (p := ⟨w.heap.size + 1, 2, none⟩) (by simp) _⟩⟩
    case done =>
      rintro D ys V hD rfl ⟨j1, hB⟩ hK
      have hout : outW [(0, a0, b0), (1, a1, b1), (2, a2, b2)] = #[.int .i64 (numZ b0), .int .i64 (numZ b1), .int .i64 (numZ b2)] := rfl
      rw [hout] at j1
      clear hout
      generalize hu0 : numZ b0 = u0 at j1
      have HU0 := Lib.hid hu0; clear hu0
      generalize hu1 : numZ b1 = u1 at j1
      have HU1 := Lib.hid hu1; clear hu1
      generalize hu2 : numZ b2 = u2 at j1
      have HU2 := Lib.hid hu2; clear hu2
      have c0 := j1.cell 0; have c1 := j1.cell 1; have c2 := j1.cell 2
      have d0 := j1.frozen 0; have d1 := j1.frozen 1; have d2 := j1.frozen 2
      simp at c0 c1 c2
      gi_wp2
      have hJ : Blk (((V.setCell ⟨w.heap.size + 1, 0, none⟩ (.int .i64 u0)).setCell ⟨w.heap.size + 1, 1, none⟩ (.int .i64 u1)).setCell ⟨w.heap.size + 1, 2, none⟩ (.int .i64 u2)) (w.heap.size + 1) #[.int .i64 u0, .int .i64 u1, .int .i64 u2] 23 := ((j1.set 0 (.int .i64 u0)).set 1 (.int .i64 u1)).set 2 (.int .i64 u2)
      have hO : KeepsOthers V (((V.setCell ⟨w.heap.size + 1, 0, none⟩ (.int .i64 u0)).setCell ⟨w.heap.size + 1, 1, none⟩ (.int .i64 u1)).setCell ⟨w.heap.size + 1, 2, none⟩ (.int .i64 u2)) := ((KeepsOthers.setCell _ _ _).trans (KeepsOthers.setCell _ _ _)).trans (KeepsOthers.setCell _ _ _)
      have hBw : Below w.heap.size w (((V.setCell ⟨w.heap.size + 1, 0, none⟩ (.int .i64 u0)).setCell ⟨w.heap.size + 1, 1, none⟩ (.int .i64 u1)).setCell ⟨w.heap.size + 1, 2, none⟩ (.int .i64 u2)) := ((hB.setCell (p := ⟨w.heap.size + 1, 0, none⟩) (by simp) _).setCell (p := ⟨w.heap.size + 1, 1, none⟩) (by simp) _).setCell (p := ⟨w.heap.size + 1, 2, none⟩) (by simp) _
      generalize (((V.setCell ⟨w.heap.size + 1, 0, none⟩ (.int .i64 u0)).setCell ⟨w.heap.size + 1, 1, none⟩ (.int .i64 u1)).setCell ⟨w.heap.size + 1, 2, none⟩ (.int .i64 u2)) = W2 at hJ hO hBw ⊢
      have hK' := hO.same D _ hK rfl
      refine ⟨by simp, .inl ⟨_, _, rfl, run_takeDeferred hK', ?_⟩⟩
      have e0 := cell_kept (hJ.cell 0) (grownBy_putObj' _ D (.deferred none)) (fun r e => by cases e; exact ⟨_, hK', rfl⟩)
      have e1 := cell_kept (hJ.cell 1) (grownBy_putObj' _ D (.deferred none)) (fun r e => by cases e; exact ⟨_, hK', rfl⟩)
      have e2 := cell_kept (hJ.cell 2) (grownBy_putObj' _ D (.deferred none)) (fun r e => by cases e; exact ⟨_, hK', rfl⟩)
      refine ⟨.tuple #[.agg #[.int .i64 u0, .int .i64 u1, .int .i64 u2], .int .i64 0], ?_, by rw [HN.out, HE.out, HU0.out, HU1.out, HU2.out], hBw.trans (belowK_b (w := w) (Nat.le_refl _) _ D _ _ (by omega) hK' rfl rfl)⟩
      simp [results, Tryz.f12, go_sem, e0, e1, e2]
    case stop =>
      rintro D c pre V _ _ h _
      exact h.elim

set_option maxRecDepth 100000 in
set_option maxHeartbeats 4000000 in
theorem read_no (a0 b0 a1 b1 a2 b2 : Int) (w : World) (hc : chkE a0 b0 a1 b1 a2 b2 = 100) :
    Calls Tryz.prog 12 #[sealedV a0 b0 a1 b1 a2 b2] w fun e w' => e = .returned (.tuple #[wordsV (0, 0, 0), .int .i64 100]) ∧ Below w.heap.size w w' := by
  go_enter Tryz.func12, Tryz.ntmps12
  go_wp2_with fail
  refine (check_any a0 b0 a1 b1 a2 b2 _).mono ?_
  rintro e W ⟨rfl, hb⟩
  rw [hc]
  obtain ⟨W0, hW⟩ : ∃ W, (w.alloc (.cells #[.int .i64 a0, .int .i64 b0, .int .i64 a1, .int .i64 b1, .int .i64 a2, .int .i64 b2] 32)).alloc (.cells #[.int .i64 0, .int .i64 0, .int .i64 0] 23) = W := ⟨_, rfl⟩
  have hB : Below w.heap.size w W0 := by rw [← hW]; exact (bel_alloc1 _ _).alloc (by simp) _
  have k1 : Blk W0 (w.heap.size + 1) #[.int .i64 0, .int .i64 0, .int .i64 0] 23 := by
    rw [← hW]; have h := Blk.new (w.alloc (.cells #[.int .i64 a0, .int .i64 b0, .int .i64 a1, .int .i64 b1, .int .i64 a2, .int .i64 b2] 32)) #[.int .i64 0, .int .i64 0, .int .i64 0] 23
    rw [World.size_alloc] at h; exact h
  rw [hW] at hb
  clear hW hc
  have K1 := Lib.hid (k1.below hb k1.lt); have KB := Lib.hid (bel_trans hB hb)
  clear k1 hB hb
  have c0 := K1.out.cell 0; have c1 := K1.out.cell 1; have c2 := K1.out.cell 2
  have d0 := K1.out.frozen 0; have d1 := K1.out.frozen 1; have d2 := K1.out.frozen 2
  simp at c0 c1 c2
  go_wp2_with fail
  have hJ : Blk (((W.setCell ⟨w.heap.size + 1, 0, none⟩ (.int .i64 0)).setCell ⟨w.heap.size + 1, 1, none⟩ (.int .i64 0)).setCell ⟨w.heap.size + 1, 2, none⟩ (.int .i64 0)) (w.heap.size + 1) #[.int .i64 0, .int .i64 0, .int .i64 0] 23 := ((K1.out.set 0 (.int .i64 0)).set 1 (.int .i64 0)).set 2 (.int .i64 0)
  have hBw : Below w.heap.size w (((W.setCell ⟨w.heap.size + 1, 0, none⟩ (.int .i64 0)).setCell ⟨w.heap.size + 1, 1, none⟩ (.int .i64 0)).setCell ⟨w.heap.size + 1, 2, none⟩ (.int .i64 0)) := ((KB.out.setCell (p := ⟨w.heap.size + 1, 0, none⟩) (by simp) _).setCell (p := ⟨w.heap.size + 1, 1, none⟩) (by simp) _).setCell (p := ⟨w.heap.size + 1, 2, none⟩) (by simp) _
  generalize (((W.setCell ⟨w.heap.size + 1, 0, none⟩ (.int .i64 0)).setCell ⟨w.heap.size + 1, 1, none⟩ (.int .i64 0)).setCell ⟨w.heap.size + 1, 2, none⟩ (.int .i64 0)) = W2 at hJ hBw ⊢
  have e0 := hJ.cell 0; have e1 := hJ.cell 1; have e2 := hJ.cell 2
  refine bodyPost_ret (v := .tuple #[.agg #[.int .i64 0, .int .i64 0, .int .i64 0], .int .i64 100]) (by simp [results, Tryz.f12, go_sem, e0, e1, e2]) rfl ⟨rfl, hBw⟩

def readE (s : Let) : Int := chkE s.1.1 s.1.2 s.2.1.1 s.2.1.2 s.2.2.1 s.2.2.2
def readR (s : Let) : W3 := if readE s = 0 then (numZ s.1.2, numZ s.2.1.2, numZ s.2.2.2) else (0, 0, 0)
theorem chkE_or (a0 b0 a1 b1 a2 b2 : Int) : chkE a0 b0 a1 b1 a2 b2 = 0 ∨ chkE a0 b0 a1 b1 a2 b2 = 100 := by unfold chkE; split <;> simp

theorem read_any (s : Let) (w : World) :
    Calls Tryz.prog 12 #[letV s] w fun e w' => e = .returned (.tuple #[wordsV (readR s), .int .i64 (readE s)]) ∧ Below w.heap.size w w' := by
  rcases chkE_or s.1.1 s.1.2 s.2.1.1 s.2.1.2 s.2.2.1 s.2.2.2 with h | h
  · have e1 : readE s = 0 := h
    have e2 : readR s = (numZ s.1.2, numZ s.2.1.2, numZ s.2.2.2) := by unfold readR; rw [e1, if_pos rfl]
    rw [e1, e2]
    exact callsIn_wide.1 (read_yes _ _ _ _ _ _ w _ _ h rfl rfl)
  · have e1 : readE s = 100 := h
    have e2 : readR s = (0, 0, 0) := by unfold readR; rw [e1, if_neg (by decide)]
    rw [e1, e2]
    exact read_no _ _ _ _ _ _ w h
end Go.Proofs.YtpjobllfiimdkaaGreatDoor
namespace Go.Proofs.YtpjobllfiimdkaaGreatDoor
set_option linter.unusedVariables false
@[go_sem high] theorem idxS0 (a b c d e f : Int) (w : World) : (Instr.index 32 (.agg #[.int .i64 a, .int .i64 b, .int .i64 c, .int .i64 d, .int .i64 e, .int .i64 f]) (.int .i64 0)).run Tryz.prog w = .ok (.agg #[.int .i64 a, .int .i64 b]) w := by kernel_rfl
@[go_sem high] theorem idxS1 (a b c d e f : Int) (w : World) : (Instr.index 32 (.agg #[.int .i64 a, .int .i64 b, .int .i64 c, .int .i64 d, .int .i64 e, .int .i64 f]) (.int .i64 1)).run Tryz.prog w = .ok (.agg #[.int .i64 c, .int .i64 d]) w := by kernel_rfl
@[go_sem high] theorem idxS2 (a b c d e f : Int) (w : World) : (Instr.index 32 (.agg #[.int .i64 a, .int .i64 b, .int .i64 c, .int .i64 d, .int .i64 e, .int .i64 f]) (.int .i64 2)).run Tryz.prog w = .ok (.agg #[.int .i64 e, .int .i64 f]) w := by kernel_rfl
@[go_sem high] theorem idxW0 (a b c : Int) (w : World) : (Instr.index 23 (.agg #[.int .i64 a, .int .i64 b, .int .i64 c]) (.int .i64 0)).run Tryz.prog w = .ok (.int .i64 a) w := by kernel_rfl
@[go_sem high] theorem idxW1 (a b c : Int) (w : World) : (Instr.index 23 (.agg #[.int .i64 a, .int .i64 b, .int .i64 c]) (.int .i64 1)).run Tryz.prog w = .ok (.int .i64 b) w := by kernel_rfl
@[go_sem high] theorem idxW2 (a b c : Int) (w : World) : (Instr.index 23 (.agg #[.int .i64 a, .int .i64 b, .int .i64 c]) (.int .i64 2)).run Tryz.prog w = .ok (.int .i64 c) w := by kernel_rfl
end Go.Proofs.YtpjobllfiimdkaaGreatDoor
namespace Go.Proofs.YtpjobllfiimdkaaGreatDoor
open Go.ChangeShapes Go.WideShapes Go.ChangeAt Go.RowKit Go.Shelf
set_option linter.unusedVariables false

theorem chk_six {a0 b0 a1 b1 a2 b2 : Int} (h : chkB a0 b0 a1 b1 a2 b2 = true) : elB a0 = true ∧ elB b0 = true ∧ elB a1 = true ∧ elB b1 = true ∧ elB a2 = true ∧ elB b2 = true := by
  unfold chkB six okC at h; simp at h; exact ⟨h.1.1, h.1.2, h.2.1.1, h.2.1.2, h.2.2.1, h.2.2.2⟩
theorem chk_of {a0 b0 a1 b1 a2 b2 : Int} (h0 : elB a0 = true) (h1 : elB b0 = true) (h2 : elB a1 = true) (h3 : elB b1 = true) (h4 : elB a2 = true) (h5 : elB b2 = true) : chkE a0 b0 a1 b1 a2 b2 = 0 := by
  unfold chkE chkB six okC; simp [h0, h1, h2, h3, h4, h5]
end Go.Proofs.YtpjobllfiimdkaaGreatDoor
namespace Go.Proofs.YtpjobllfiimdkaaGreatDoor
set_option linter.unusedVariables false

theorem elm_range {n : Int} (h : 1 ≤ n ∧ n ≤ 1073741789) : elB (elmZ n) = true := by
  unfold elmZ; rw [if_pos h]
  cases hv : elB n with
  | true => rw [if_pos rfl]; exact hv
  | false => rw [if_neg (by simp), element_low (by omega) (by omega), hv]; rfl

/-- different numbers have different elements -/
theorem elm_inj {n m : Int} (h : 1 ≤ n ∧ n ≤ 1073741789) (k : 1 ≤ m ∧ m ≤ 1073741789) : (elmZ n == elmZ m) = (n == m) := by
  by_cases e : n = m
  · subst e; simp
  · rw [beq_eq_false_iff_ne.2 e, beq_eq_false_iff_ne]
    unfold elmZ; rw [if_pos h, if_pos k]
    split <;> split <;> omega

theorem num_elm {n : Int} (h : 1 ≤ n ∧ n ≤ 1073741789) : numZ (elmZ n) = n ∧ numE (elmZ n) = 0 := by
  have hr := elm_range h
  unfold numZ numE; rw [hr, if_pos rfl, if_pos rfl]
  refine ⟨?_, rfl⟩
  unfold elmZ; rw [if_pos h]
  split <;> split <;> omega

theorem elm_num {n : Int} (h : elB n = true) : (1 ≤ numZ n ∧ numZ n ≤ 1073741789) ∧ elmZ (numZ n) = n := by
  obtain ⟨h1, h2⟩ := elB_iff h
  unfold numZ; rw [h, if_pos rfl]
  by_cases c : n ≤ 1073741789
  · rw [if_pos c]
    refine ⟨by omega, ?_⟩
    unfold elmZ; rw [if_pos (by omega), h]; rfl
  · rw [if_neg c]
    refine ⟨by omega, ?_⟩
    unfold elmZ; rw [if_pos (by omega), element_low (by omega) (by omega), h]
    show (if (false = true) then _ else _) = n
    rw [if_neg (by simp)]; omega

end Go.Proofs.YtpjobllfiimdkaaGreatDoor
namespace Go.Proofs.YtpjobllfiimdkaaGreatDoor
open Go.RowKit
set_option linter.unusedVariables false
set_option linter.unusedSimpArgs false

theorem elm_1 : elmZ 1 = 1 := by unfold elmZ; rw [if_pos (by decide), if_pos elB_one]
theorem elB_16 : elB 16 = true := elB_sq (n := 4) (by omega) (by omega)
theorem elB_64 : elB 64 = true := elB_sq (n := 8) (by omega) (by omega)
theorem k_pow3 : powZ 4 3 = 64 := by
  have h := powZ_add elB_4 2 1
  rw [c_pow1, powZ_one elB_4, mulZ_eq elB_16 elB_4] at h
  exact h.symm
theorem k_pow5 : powZ 4 5 = 1024 := by
  have h := powZ_add elB_4 3 2
  rw [c_pow1, k_pow3, mulZ_eq elB_64 elB_16] at h
  exact h.symm
theorem cip_el {key e r a b : Int} (hk : elB key = true) (he : elB e = true) (h : IsCip key e r a b) : elB a = true ∧ elB b = true := by
  rw [← h.ha, ← h.hb]; exact ⟨powZ_el elB_4 _, mulZ_el he (powZ_el hk _)⟩
theorem strip_alg {e : Int} (he : elB e = true) (t u s : Int) : mulZ (mulZ e (powZ 4 u)) (powZ (powZ 4 t) (-s)) = mulZ e (powZ 4 (u + t * (-s))) := by
  rw [powZ_mul elB_4, mulZ_assoc he (powZ_el elB_4 _) (powZ_el elB_4 _), powZ_add elB_4]
theorem sealed_cip {key e r m xa xb a b : Int} (hk : elB key = true) (he : elB e = true) (h : IsCip key e r xa xb) (h0 : IsCip key (elmZ 1) m a b) : IsCip key e (r + m) (mulZ xa a) (mulZ xb b) := by
  have e1 : elmZ 1 = 1 := elm_1
  refine ⟨by rw [← h.ha, ← h0.ha, powZ_add elB_4], ?_⟩
  rw [← h.hb, ← h0.hb, e1, mulZ_one (powZ_el hk m), mulZ_assoc he (powZ_el hk r) (powZ_el hk m), powZ_add hk]
set_option maxHeartbeats 1000000 in
theorem strip_is (s a0 b0 a1 b1 a2 b2 c0 c1 c2 : Int) (w : World) (hs : Hid (secB s = true)) (hc : Hid (chkE a0 b0 a1 b1 a2 b2 = 0)) (h0 : Hid (mulZ b0 (powZ a0 (-s)) = c0)) (h1 : Hid (mulZ b1 (powZ a1 (-s)) = c1)) (h2 : Hid (mulZ b2 (powZ a2 (-s)) = c2)) :
    Calls Tryz.prog 11 #[.int .i64 s, sealedV a0 b0 a1 b1 a2 b2] w fun e w' => e = .returned (.tuple #[sealedV a0 c0 a1 c1 a2 c2, .int .i64 0]) ∧ Below w.heap.size w w' := by
  have := strip_any s ((a0, b0), (a1, b1), (a2, b2)) w
  have e1 : stripR s ((a0, b0), (a1, b1), (a2, b2)) = ((a0, c0), (a1, c1), (a2, c2)) := by
    unfold stripR
    rw [if_pos hs.out, if_pos hc.out, ← h0.out, ← h1.out, ← h2.out]
    rfl
  have e2 : stripE s ((a0, b0), (a1, b1), (a2, b2)) = 0 := by unfold stripE; rw [if_pos hs.out]; exact hc.out
  rw [e1, e2] at this
  exact this
set_option maxHeartbeats 1000000 in
theorem read_is (a0 b0 a1 b1 a2 b2 n0 n1 n2 : Int) (w : World) (hc : Hid (chkE a0 b0 a1 b1 a2 b2 = 0)) (h0 : Hid (numZ b0 = n0)) (h1 : Hid (numZ b1 = n1)) (h2 : Hid (numZ b2 = n2)) :
    Calls Tryz.prog 12 #[sealedV a0 b0 a1 b1 a2 b2] w fun e w' => e = .returned (.tuple #[.agg #[.int .i64 n0, .int .i64 n1, .int .i64 n2], .int .i64 0]) ∧ Below w.heap.size w w' := by
  have := read_any ((a0, b0), (a1, b1), (a2, b2)) w
  have e2 : readE ((a0, b0), (a1, b1), (a2, b2)) = 0 := hc.out
  have e1 : readR ((a0, b0), (a1, b1), (a2, b2)) = (n0, n1, n2) := by
    unfold readR; rw [if_pos e2, ← h0.out, ← h1.out, ← h2.out]
  rw [e1, e2] at this
  exact this
theorem strip_one {s key e t a b : Int} (hk : key = powZ 4 s) (he : elB e = true) (h : IsCip key e t a b) : mulZ b (powZ a (-s)) = e := by
  have hb : b = mulZ e (powZ 4 (s * t)) := by rw [← h.hb, hk, powZ_mul elB_4]
  rw [hb, ← h.ha, strip_alg he, show s * t + t * (-s) = 0 by rw [Int.mul_neg, Int.mul_comm t s]; omega, powZ_zero elB_4, mulZ_one_r he]
set_option maxRecDepth 100000 in
set_option maxHeartbeats 8000000 in
theorem sane43_any (w : World) (hk : Hid (KeysAt w)) : Calls Tryz.prog 5 #[] w fun e w' => e = .returned (.bool true) ∧ Below w.heap.size w w' := by
  obtain ⟨a, b, hc⟩ := isCip 64 (elmZ 9) 5
  obtain ⟨ds, hds⟩ := isTag 0 64 a b
  obtain ⟨e0, e1, hsig⟩ := isSig 5 (ltx 7 1 1048576)
  obtain ⟨f0, f1, hsif⟩ := isSig 5 (ltx 0 1 1)
  obtain ⟨a0, b0, h0⟩ := isCip 64 (elmZ 1) 1
  obtain ⟨a1, b1, h1⟩ := isCip 64 (elmZ (e0 + 1)) 2
  obtain ⟨a2, b2, h2⟩ := isCip 64 (elmZ (e1 + 1)) 3
  obtain ⟨A, hA⟩ : ∃ A, mulZ a a0 = A := ⟨_, rfl⟩
  obtain ⟨B, hB⟩ : ∃ B, mulZ b b0 = B := ⟨_, rfl⟩
  have er := hsig.rng
  have w0 : wordB (e0 + 1) = true := by unfold wordB; simp; omega
  have w1 : wordB (e1 + 1) = true := by unfold wordB; simp; omega
  have hAB := sealed_cip elB_64 (elm_el (n := 9) (by decide)) hc h0
  rw [hA, hB] at hAB
  have l9 := elm_el (n := 9) (by decide)
  have l1 := elm_el (n := 1) (by decide)
  have lp := elm_el w0
  have lq := elm_el w1
  have c0 := cip_el elB_64 l9 hc
  have c1 := cip_el elB_64 l9 hAB
  have c2 := cip_el elB_64 lp h1
  have c3 := cip_el elB_64 lq h2
  have HC1 := Lib.hid (chk_of c1.1 c1.2 c2.1 c2.2 c3.1 c3.2)
  have s0 := Lib.hid (strip_one k_pow3.symm l9 hAB)
  have s1 := Lib.hid (strip_one k_pow3.symm lp h1)
  have s2 := Lib.hid (strip_one k_pow3.symm lq h2)
  have HC2 := Lib.hid (chk_of c1.1 l9 c2.1 lp c3.1 lq)
  have N0 := Lib.hid (num_elm (n := 9) (by omega)).1
  have N1 := Lib.hid (num_elm (n := e0 + 1) (by omega)).1
  have N2 := Lib.hid (num_elm (n := e1 + 1) (by omega)).1
  have HCP := Lib.hid hc
  have HD := Lib.hid hds
  have HL := Lib.hid hds.len
  have HS := Lib.hid hsig
  have HF := Lib.hid hsif
  have HRC := Lib.hid (show IsRC 0 64 a b ds 0 from .inr ⟨partB_iff.2 ⟨by decide, elB_64, c0.1, c0.2⟩, ds, hds, .inl ⟨rfl, rfl⟩⟩)
  have HRZ := Lib.hid (show IsRC 0 0 0 0 (List.replicate 32 0) 160 from .inl ⟨by unfold partB; rw [elB_0]; simp, rfl⟩)
  have HU : ∀ w' : World, Hid (KeysAt w') → Hid (∀ g : World, Below w'.heap.size w' g → Calls Tryz.prog 17 #[.agg (rtv 0 64 a b ds).toArray, .agg #[.int .i64 (e0 + 1), .int .i64 (e1 + 1)], .agg #[.int .i64 1, .int .i64 2, .int .i64 3]] g fun e g' => e = .returned (.tuple #[sealedV A B a1 b1 a2 b2, .int .i64 0]) ∧ Below g.heap.size g g') := fun w' hw => Lib.hid fun g hg => ouse_ok 0 64 a b ds (e0 + 1) (e1 + 1) 1 2 3 g HL (Lib.hid (hw.out.below hg)) HRC (Lib.hid w0) (Lib.hid w1) (Lib.hid elB_64) (Lib.hid ⟨by decide, w0, w1⟩) a0 b0 a1 b1 a2 b2 A B (Lib.hid h0) (Lib.hid h1) (Lib.hid h2) (Lib.hid hA) (Lib.hid hB)
  have HZ : ∀ w' : World, Hid (KeysAt w') → Hid (∀ g : World, Below w'.heap.size w' g → Calls Tryz.prog 17 #[.agg (rtv 0 0 0 0 (List.replicate 32 0)).toArray, .agg #[.int .i64 (e0 + 1), .int .i64 (e1 + 1)], .agg #[.int .i64 0, .int .i64 0, .int .i64 0]] g fun e g' => e = .returned (.tuple #[sealedV 0 0 0 0 0 0, .int .i64 160]) ∧ Below g.heap.size g g') := fun w' hw => Lib.hid fun g hg => ouse_ret 0 0 0 0 (List.replicate 32 0) (e0 + 1) (e1 + 1) 0 0 0 g (Lib.hid rfl) (Lib.hid (hw.out.below hg)) HRZ
  have OK1 := Lib.hid (ints3 (a := 7) (b := 1) (c := 1048576) (by unfold inR; omega) (by unfold inR; omega) (by unfold inR; omega))
  have OK2 := Lib.hid (ints3 (a := 0) (b := 1) (c := 1) (by unfold inR; omega) (by unfold inR; omega) (by unfold inR; omega))
  have V1 := Lib.hid (show IsVer 1024 (ltx 7 1 1048576) e0 e1 true by rw [← k_pow5]; exact hsig.ver)
  have V2 := Lib.hid (show IsVer 2 (ltx 7 1 1048576) e0 e1 false from IsVer.no (by rw [elB_2]; rfl))
  have V3 := Lib.hid (show IsVer 1024 (ltx 7 1 1048576) (-1) (-1) false from IsVer.no (by rw [show inQ (-1) = false by decide]; simp))
  have W1 : IntKind.i64.wrap (e0 + 1 - 1) = e0 := by rw [IntWalk.i64_in _ (by omega)]; omega
  have W2 : IntKind.i64.wrap (e1 + 1 - 1) = e1 := by rw [IntWalk.i64_in _ (by omega)]; omega
  have R0 := er.1
  have R1 := er.2
  have B0 := Lib.hid (Below.refl w.heap.size w)
  obtain ⟨g0, q0⟩ : ∃ g, elmZ 9 = g := ⟨_, rfl⟩
  obtain ⟨g1, q1⟩ : ∃ g, elmZ (e0 + 1) = g := ⟨_, rfl⟩
  obtain ⟨g2, q2⟩ : ∃ g, elmZ (e1 + 1) = g := ⟨_, rfl⟩
  rw [q0] at s0 HC2 N0 HCP
  rw [q1] at s1 HC2 N1
  rw [q2] at s2 HC2 N2
  clear hc hds hsig hsif h0 h1 h2 hA hB er hAB l9 l1 lp lq c0 c1 c2 c3 w0 w1 q1 q2
  go_enter Tryz.func5, Tryz.ntmps5
  go_upto_region 2 with fail
  have Kw := Lib.hid (bel_alloc1 w (.cells #[.int .i64 7, .int .i64 1, .int .i64 1048576] 23))
  have P1 := Lib.hid (Blk.new w #[.int .i64 7, .int .i64 1, .int .i64 1048576] 23)
  have B1 := Lib.hid (bel_trans B0.out Kw.out)
  clear Kw
  generalize World.alloc w _ = v0 at P1 B1 ⊢
  generalize hpb : w.heap.size = pb at P1 ⊢
  have hpb2 := Lib.hid hpb
  clear hpb
  go_wp2_with (first
    | (go_at_call 10; refine (omake_ok 0 64 9 5 _ (Lib.hid (by decide)) (Lib.hid elB_64) (Lib.hid (by decide)) a b ds (Lib.hid (by rw [q0]; exact HCP.out)) HD (Lib.hid (hk.out.below B1.out))).mono ?_; rintro e v1 ⟨rfl, hb⟩; have B2 := Lib.hid (bel_trans B1.out hb); have P2 := Lib.hid (P1.out.below hb P1.out.lt); clear hb)
    | (refine list_storeR rfl (.tmp 2) (.tmp 20) rfl v1.heap.size rfl 0 64 a b ds rfl HL.out 0 0 0 0 (List.replicate 32 0) (RBlk.new v1) ?_)
  )
  intro v2 qv kv
  have Kv := Lib.hid ((bel_alloc1 v1 _).trans (kv.below (Nat.le_refl _)))
  have Qv := Lib.hid qv
  clear qv kv
  have B3 := Lib.hid (bel_trans B2.out Kv.out)
  have P3 := Lib.hid (P2.out.below Kv.out P2.out.lt)
  obtain ⟨xb, hxb⟩ : ∃ q, v1.heap.size = q := ⟨_, rfl⟩
  rw [hxb] at Qv ⊢
  clear hxb
  have X3 := Qv
  clear Kv
  go_upto_region 3 with fail
  have p0 := P3.out.cell 0
  have p1 := P3.out.cell 1
  have p2 := P3.out.cell 2
  go_upto_region 4 with (first
    | (refine list_loadR (by rfl) (.tmp 2) rfl xb rfl 0 64 a b ds X3.out ?_)
    | (go_at_call 6; refine (recMake_use 5 7 1 1048576 0 64 a b ds 1 2 3 _ HL OK1 (Lib.hid (hk.out.below B3.out)) (by omega) (by omega) e0 e1 HS (Lib.hid (by decide)) R0 R1 A B a1 b1 a2 b2 0 (HU _ (Lib.hid (hk.out.below B3.out)))).mono ?_; rintro e w1 ⟨rfl, hb⟩; have B4 := Lib.hid (bel_trans B3.out hb); have P4 := Lib.hid (P3.out.below hb P3.out.lt); have X4 := Lib.hid (X3.out.bel hb); clear hb)
  )
  clear p0 p1 p2
  have Kw1 := Lib.hid (bel_alloc1 w1 (.cells #[.int .i64 A, .int .i64 B, .int .i64 a1, .int .i64 b1, .int .i64 a2, .int .i64 b2] 32))
  have Qw1 := Lib.hid (Blk.new w1 #[.int .i64 A, .int .i64 B, .int .i64 a1, .int .i64 b1, .int .i64 a2, .int .i64 b2] 32)
  generalize World.alloc w1 _ = w1' at Kw1 Qw1 ⊢
  generalize w1.heap.size = w1b at Qw1 ⊢
  have B5 := Lib.hid (bel_trans B4.out Kw1.out)
  have P5 := Lib.hid (P4.out.below Kw1.out P4.out.lt)
  have X5 := Lib.hid (X4.out.bel Kw1.out)
  have S5 := Qw1
  clear Kw1
  have p0 := S5.out.cell 0
  have p1 := S5.out.cell 1
  have p2 := S5.out.cell 2
  have p3 := S5.out.cell 3
  have p4 := S5.out.cell 4
  have p5 := S5.out.cell 5
  go_upto_region 5 with (first
    | (go_at_call 11; refine (strip_is 3 A B a1 b1 a2 b2 g0 g1 g2 _ (Lib.hid (by decide)) HC1 s0 s1 s2).mono ?_; rintro e w2 ⟨rfl, hb⟩; have B6 := Lib.hid (bel_trans B5.out hb); have P6 := Lib.hid (P5.out.below hb P5.out.lt); have X6 := Lib.hid (X5.out.bel hb); have S6 := Lib.hid (S5.out.below hb S5.out.lt); clear hb)
  )
  clear p0 p1 p2 p3 p4 p5
  have Kw2 := Lib.hid (bel_alloc1 w2 (.cells #[.int .i64 A, .int .i64 g0, .int .i64 a1, .int .i64 g1, .int .i64 a2, .int .i64 g2] 32))
  have Qw2 := Lib.hid (Blk.new w2 #[.int .i64 A, .int .i64 g0, .int .i64 a1, .int .i64 g1, .int .i64 a2, .int .i64 g2] 32)
  generalize World.alloc w2 _ = w2' at Kw2 Qw2 ⊢
  generalize w2.heap.size = w2b at Qw2 ⊢
  have B7 := Lib.hid (bel_trans B6.out Kw2.out)
  have P7 := Lib.hid (P6.out.below Kw2.out P6.out.lt)
  have X7 := Lib.hid (X6.out.bel Kw2.out)
  have S7 := Lib.hid (S6.out.below Kw2.out S6.out.lt)
  have T7 := Qw2
  clear Kw2
  have p0 := T7.out.cell 0
  have p1 := T7.out.cell 1
  have p2 := T7.out.cell 2
  have p3 := T7.out.cell 3
  have p4 := T7.out.cell 4
  have p5 := T7.out.cell 5
  go_upto_region 6 with (first
    | (go_at_call 12; refine (read_is A g0 a1 g1 a2 g2 9 (e0 + 1) (e1 + 1) _ HC2 N0 N1 N2).mono ?_; rintro e w3 ⟨rfl, hb⟩; have B8 := Lib.hid (bel_trans B7.out hb); have P8 := Lib.hid (P7.out.below hb P7.out.lt); have X8 := Lib.hid (X7.out.bel hb); have T8 := Lib.hid (T7.out.below hb T7.out.lt); clear hb)
  )
  clear p0 p1 p2 p3 p4 p5
  have Kw3 := Lib.hid (bel_alloc1 w3 (.cells #[.int .i64 9, .int .i64 (e0 + 1), .int .i64 (e1 + 1)] 23))
  have Qw3 := Lib.hid (Blk.new w3 #[.int .i64 9, .int .i64 (e0 + 1), .int .i64 (e1 + 1)] 23)
  generalize World.alloc w3 _ = w3' at Kw3 Qw3 ⊢
  generalize w3.heap.size = w3b at Qw3 ⊢
  have B9 := Lib.hid (bel_trans B8.out Kw3.out)
  have P9 := Lib.hid (P8.out.below Kw3.out P8.out.lt)
  have X9 := Lib.hid (X8.out.bel Kw3.out)
  have T9 := Lib.hid (T8.out.below Kw3.out T8.out.lt)
  have Y9 := Qw3
  clear Kw3
  have p0 := P9.out.cell 0
  have p1 := P9.out.cell 1
  have p2 := P9.out.cell 2
  go_upto_region 7 with (first
    | (refine list_loadR (by rfl) (.tmp 2) rfl xb rfl 0 64 a b ds X9.out ?_)
    | (go_at_call 6; refine (recMake_key 0 7 1 1048576 0 64 a b ds 0 0 0 _ HL OK1 (Lib.hid (hk.out.below B9.out)) (by omega)).mono ?_; rintro e w4 ⟨rfl, hb⟩; have B10 := Lib.hid (bel_trans B9.out hb); have P10 := Lib.hid (P9.out.below hb P9.out.lt); have X10 := Lib.hid (X9.out.bel hb); have Y10 := Lib.hid (Y9.out.below hb Y9.out.lt); clear hb)
  )
  clear p0 p1 p2
  have Kw4 := Lib.hid (bel_alloc1 w4 (.cells #[.int .i64 0, .int .i64 0, .int .i64 0, .int .i64 0, .int .i64 0, .int .i64 0] 32))
  have Qw4 := Lib.hid (Blk.new w4 #[.int .i64 0, .int .i64 0, .int .i64 0, .int .i64 0, .int .i64 0, .int .i64 0] 32)
  generalize World.alloc w4 _ = w4' at Kw4 Qw4 ⊢
  generalize w4.heap.size = w4b at Qw4 ⊢
  have B11 := Lib.hid (bel_trans B10.out Kw4.out)
  have P11 := Lib.hid (P10.out.below Kw4.out P10.out.lt)
  have X11 := Lib.hid (X10.out.bel Kw4.out)
  have Y11 := Lib.hid (Y10.out.below Kw4.out Y10.out.lt)
  clear Qw4
  clear Kw4
  go_upto_region 8 with (first
    | (refine list_loadR (by rfl) (.tmp 2) rfl xb rfl 0 64 a b ds X11.out ?_)
    | (go_at_call 6; refine (recMake_rec 5 0 1 1 0 64 a b ds 0 0 0 _ HL OK2 (Lib.hid (hk.out.below B11.out)) (by omega) (by omega) f0 f1 HF (Lib.hid (by decide))).mono ?_; rintro e w5 ⟨rfl, hb⟩; have B12 := Lib.hid (bel_trans B11.out hb); have P12 := Lib.hid (P11.out.below hb P11.out.lt); have X12 := Lib.hid (X11.out.bel hb); have Y12 := Lib.hid (Y11.out.below hb Y11.out.lt); clear hb)
  )
  have Kw5 := Lib.hid (bel_alloc1 w5 (.cells #[.int .i64 0, .int .i64 0, .int .i64 0, .int .i64 0, .int .i64 0, .int .i64 0] 32))
  have Qw5 := Lib.hid (Blk.new w5 #[.int .i64 0, .int .i64 0, .int .i64 0, .int .i64 0, .int .i64 0, .int .i64 0] 32)
  generalize World.alloc w5 _ = w5' at Kw5 Qw5 ⊢
  generalize w5.heap.size = w5b at Qw5 ⊢
  have B13 := Lib.hid (bel_trans B12.out Kw5.out)
  have P13 := Lib.hid (P12.out.below Kw5.out P12.out.lt)
  have X13 := Lib.hid (X12.out.bel Kw5.out)
  have Y13 := Lib.hid (Y12.out.below Kw5.out Y12.out.lt)
  clear Qw5
  clear Kw5
  have p0 := P13.out.cell 0
  have p1 := P13.out.cell 1
  have p2 := P13.out.cell 2
  go_upto_region 9 with (first
    | (go_at_call 6; refine (recMake_use 5 7 1 1048576 0 0 0 0 (List.replicate 32 0) 0 0 0 _ (Lib.hid rfl) OK1 (Lib.hid (hk.out.below B13.out)) (by omega) (by omega) e0 e1 HS (Lib.hid (by decide)) R0 R1 0 0 0 0 0 0 160 (HZ _ (Lib.hid (hk.out.below B13.out)))).mono ?_; rintro e w6 ⟨rfl, hb⟩; have B14 := Lib.hid (bel_trans B13.out hb); have P14 := Lib.hid (P13.out.below hb P13.out.lt); have X14 := Lib.hid (X13.out.bel hb); have Y14 := Lib.hid (Y13.out.below hb Y13.out.lt); clear hb)
  )
  clear p0 p1 p2
  have Kw6 := Lib.hid (bel_alloc1 w6 (.cells #[.int .i64 0, .int .i64 0, .int .i64 0, .int .i64 0, .int .i64 0, .int .i64 0] 32))
  have Qw6 := Lib.hid (Blk.new w6 #[.int .i64 0, .int .i64 0, .int .i64 0, .int .i64 0, .int .i64 0, .int .i64 0] 32)
  generalize World.alloc w6 _ = w6' at Kw6 Qw6 ⊢
  generalize w6.heap.size = w6b at Qw6 ⊢
  have B15 := Lib.hid (bel_trans B14.out Kw6.out)
  have P15 := Lib.hid (P14.out.below Kw6.out P14.out.lt)
  have X15 := Lib.hid (X14.out.bel Kw6.out)
  have Y15 := Lib.hid (Y14.out.below Kw6.out Y14.out.lt)
  clear Qw6
  clear Kw6
  go_upto_region 11 with fail
  have y0 := Y15.out.cell 0
  have y1 := Y15.out.cell 1
  have y2 := Y15.out.cell 2
  go_upto_region 12 with fail
  clear y0 y1 y2
  have Ko := Lib.hid (bel_alloc1 w6' (.cells #[.int .i64 9, .int .i64 (e0 + 1), .int .i64 (e1 + 1)] 23))
  have Qo := Lib.hid (Blk.new w6' #[.int .i64 9, .int .i64 (e0 + 1), .int .i64 (e1 + 1)] 23)
  generalize World.alloc w6' _ = wo at Ko Qo ⊢
  have sepP := P15.out.lt
  have sepY := Y15.out.lt
  have sepB := B15.out.size
  generalize w6'.heap.size = ob at Qo sepP sepY sepB ⊢
  have B16 := Lib.hid (bel_trans B15.out Ko.out)
  have P16 := Lib.hid (P15.out.below Ko.out P15.out.lt)
  have X16 := Lib.hid (X15.out.bel Ko.out)
  have Y16 := Lib.hid (Y15.out.below Ko.out Y15.out.lt)
  clear Ko
  have o0 := Qo.out.cell 0
  have f0' := Qo.out.frozen 0
  go_upto_region 13 with fail
  have QO := Lib.hid (Qo.out.set 0 (.int .i64 8))
  have PO := Lib.hid (P16.out.other 0 (.int .i64 8) (show pb ≠ ob by omega))
  have YO := Lib.hid (Y16.out.other 0 (.int .i64 8) (show w3b ≠ ob by omega))
  have BO := Lib.hid (B16.out.setCell (p := ⟨ob, 0, none⟩) (show w.heap.size ≤ ob by omega) (.int .i64 8))
  clear o0 f0' Qo P16 Y16 B16
  generalize World.setCell _ _ _ = V at QO PO YO BO ⊢
  have QO := Lib.hid (show Blk V ob #[.int .i64 8, .int .i64 (e0 + 1), .int .i64 (e1 + 1)] 23 from QO.out)
  have p0 := PO.out.cell 0
  have p1 := PO.out.cell 1
  have p2 := PO.out.cell 2
  have y0 := YO.out.cell 0
  have y1 := YO.out.cell 1
  have y2 := YO.out.cell 2
  have z0 := QO.out.cell 0
  have z1 := QO.out.cell 1
  have z2 := QO.out.cell 2
  go_wp2_with (first
    | (go_at_call 8; with_reducible refine (recChk_is 1024 7 1 1048576 9 (e0 + 1) (e1 + 1) e0 e1 true _ OK1 (Lib.hid (hk.out.below BO.out)) W1 W2 V1).mono ?_; rintro e u1 ⟨rfl, hb⟩; have B17 := Lib.hid (bel_trans BO.out hb); have P17 := Lib.hid (PO.out.below hb PO.out.lt); have Y17 := Lib.hid (YO.out.below hb YO.out.lt); have Q17 := Lib.hid (QO.out.below hb QO.out.lt); clear hb p0 p1 p2 y0 y1 y2 z0 z1 z2; have p0 := P17.out.cell 0; have p1 := P17.out.cell 1; have p2 := P17.out.cell 2; have y0 := Y17.out.cell 0; have y1 := Y17.out.cell 1; have y2 := Y17.out.cell 2; have z0 := Q17.out.cell 0; have z1 := Q17.out.cell 1; have z2 := Q17.out.cell 2)
    | (go_at_call 8; with_reducible refine (recChk_is 1024 7 1 1048576 8 (e0 + 1) (e1 + 1) e0 e1 true _ OK1 (Lib.hid (hk.out.below B17.out)) W1 W2 V1).mono ?_; rintro e u2 ⟨rfl, hb⟩; have B18 := Lib.hid (bel_trans B17.out hb); have P18 := Lib.hid (P17.out.below hb P17.out.lt); have Y18 := Lib.hid (Y17.out.below hb Y17.out.lt); have Q18 := Lib.hid (Q17.out.below hb Q17.out.lt); clear hb p0 p1 p2 y0 y1 y2 z0 z1 z2; have p0 := P18.out.cell 0; have p1 := P18.out.cell 1; have p2 := P18.out.cell 2; have y0 := Y18.out.cell 0; have y1 := Y18.out.cell 1; have y2 := Y18.out.cell 2; have z0 := Q18.out.cell 0; have z1 := Q18.out.cell 1; have z2 := Q18.out.cell 2)
    | (go_at_call 8; with_reducible refine (recChk_is 2 7 1 1048576 9 (e0 + 1) (e1 + 1) e0 e1 false _ OK1 (Lib.hid (hk.out.below B18.out)) W1 W2 V2).mono ?_; rintro e u3 ⟨rfl, hb⟩; have B19 := Lib.hid (bel_trans B18.out hb); have P19 := Lib.hid (P18.out.below hb P18.out.lt); have Y19 := Lib.hid (Y18.out.below hb Y18.out.lt); have Q19 := Lib.hid (Q18.out.below hb Q18.out.lt); clear hb p0 p1 p2 y0 y1 y2 z0 z1 z2; have p0 := P19.out.cell 0; have p1 := P19.out.cell 1; have p2 := P19.out.cell 2; have y0 := Y19.out.cell 0; have y1 := Y19.out.cell 1; have y2 := Y19.out.cell 2; have z0 := Q19.out.cell 0; have z1 := Q19.out.cell 1; have z2 := Q19.out.cell 2)
    | (go_at_call 8; with_reducible refine (recChk_is 1024 7 1 1048576 9 0 0 (-1) (-1) false _ OK1 (Lib.hid (hk.out.below B19.out)) rfl rfl V3).mono ?_; rintro e u4 ⟨rfl, hb⟩; have B20 := Lib.hid (bel_trans B19.out hb); have P20 := Lib.hid (P19.out.below hb P19.out.lt); have Y20 := Lib.hid (Y19.out.below hb Y19.out.lt); have Q20 := Lib.hid (Q19.out.below hb Q19.out.lt); clear hb p0 p1 p2 y0 y1 y2 z0 z1 z2; have p0 := P20.out.cell 0; have p1 := P20.out.cell 1; have p2 := P20.out.cell 2; have y0 := Y20.out.cell 0; have y1 := Y20.out.cell 1; have y2 := Y20.out.cell 2; have z0 := Q20.out.cell 0; have z1 := Q20.out.cell 1; have z2 := Q20.out.cell 2)
  )
  go_ret
  exact ⟨rfl, B20.out⟩
end Go.Proofs.YtpjobllfiimdkaaGreatDoor
