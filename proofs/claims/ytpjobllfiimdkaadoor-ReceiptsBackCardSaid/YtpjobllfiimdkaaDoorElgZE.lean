/- Package elgamal: Read. -/
import Derived.Test.YtpjobllfiimdkaaDoorElgZD
namespace Go.Proofs.YtpjobllfiimdkaaDoor
open Go.RowKit Go.Shelf
set_option linter.unusedVariables false
attribute [local go_sem] Oper.semAt_some

/-- three words -/
abbrev W3 := Int × Int × Int
abbrev wordsV (x : W3) : Value := .agg #[.int .i64 x.1, .int .i64 x.2.1, .int .i64 x.2.2]

def outW (pre : List Cip) : Array Value := pre.foldl (fun c x => c.setIfInBounds x.1.val (.int .i64 (numZ x.2.2))) #[.int .i64 0, .int .i64 0, .int .i64 0]
theorem outW_snoc (pre : List Cip) (x : Cip) : outW (pre ++ [x]) = (outW pre).setIfInBounds x.1.val (.int .i64 (numZ x.2.2)) := by simp [outW]
theorem outW_size (pre : List Cip) : (outW pre).size = 3 := by
  unfold outW
  have : ∀ (l : List Cip) (c : Array Value), c.size = 3 → (l.foldl (fun c x => c.setIfInBounds x.1.val (.int .i64 (numZ x.2.2))) c).size = 3 := by
    intro l
    induction l with
    | nil => intro c h; exact h
    | cons x l ih => intro c h; simp only [List.foldl]; exact ih _ (by simp [h])
  exact this _ _ rfl

theorem number_n (x : Int) (w : World) : Calls Tryd.prog 36 #[.int .i64 x] w fun e w' => e = .returned (.tuple #[.int .i64 (numZ x), .int .i64 (numE x)]) ∧ w = w' := gNumber_any x w

set_option maxRecDepth 100000 in
set_option maxHeartbeats 4000000 in
theorem read_yes (a0 b0 a1 b1 a2 b2 : Int) (w : World) (N : W3) (E : Int)
    (hc : chkE a0 b0 a1 b1 a2 b2 = 0) (HN : Hid (N = (numZ b0, numZ b1, numZ b2))) (HE : Hid (E = 0)) :
    CallsIn Fence.wide 5 Tryd.prog 12 #[sealedV a0 b0 a1 b1 a2 b2] w fun e w' => e = .returned (.tuple #[wordsV N, .int .i64 E]) ∧ Below w.heap.size w w' := by
  refine callsIn_of_wp_marks Tryd.func12 rfl trivial ?_ rfl
  simp only [Tryd.ntmps12, List.size_toArray, List.length_cons, List.length_nil, Nat.reduceAdd, Nat.reduceSub, Array.replicate_succ, Array.replicate_zero, List.push_toArray, List.append_toArray, List.nil_append, List.cons_append]
  gi_wp2
  refine ⟨trivial, ?_⟩
  refine (callsIn_wide.2 (check_any a0 b0 a1 b1 a2 b2 _)).mono ?_
  rintro e W ⟨rfl, hb⟩
  obtain ⟨W0, hW⟩ : ∃ W, (w.alloc (.cells #[.int .i64 a0, .int .i64 b0, .int .i64 a1, .int .i64 b1, .int .i64 a2, .int .i64 b2] 39)).alloc (.cells #[.int .i64 0, .int .i64 0, .int .i64 0] 23) = W := ⟨_, rfl⟩
  have hB : Below w.heap.size w W0 := by rw [← hW]; exact (bel_alloc1 _ _).alloc (by simp) _
  have k0 : Blk W0 w.heap.size #[.int .i64 a0, .int .i64 b0, .int .i64 a1, .int .i64 b1, .int .i64 a2, .int .i64 b2] 39 := by rw [← hW]; exact (Blk.new w _ _).alloc _
  have k1 : Blk W0 (w.heap.size + 1) #[.int .i64 0, .int .i64 0, .int .i64 0] 23 := by
    rw [← hW]; have h := Blk.new (w.alloc (.cells #[.int .i64 a0, .int .i64 b0, .int .i64 a1, .int .i64 b1, .int .i64 a2, .int .i64 b2] 39)) #[.int .i64 0, .int .i64 0, .int .i64 0] 23
    rw [World.size_alloc] at h; exact h
  rw [hW] at hb
  clear hW
  have K0 := Lib.hid (k0.below hb k0.lt); have K1 := Lib.hid (k1.below hb k1.lt); have KB := Lib.hid (bel_trans hB hb)
  clear k0 k1 hB hb
  · rw [hc]
    clear hc
    obtain ⟨c0, c1, c2, c3, c4, c5, _⟩ := blk6_facts K0.out
    gi_wp2
    refine ⟨trivial, ?_⟩
    refine (callsIn_wide.2 (ciphers_any _ _ _ _ _ _ W.heap.size _ rfl)).mono ?_; rintro e w' ⟨rfl, rfl⟩
    clear c0 c1 c2 c3 c4 c5
    gi_wp2
    obtain ⟨W1, hW1⟩ : ∃ W1, W.alloc (.cells #[.int .i64 a0, .int .i64 b0, .int .i64 a1, .int .i64 b1, .int .i64 a2, .int .i64 b2] 39) = W1 := ⟨_, rfl⟩
    have hB0 : Below w.heap.size w W1 := by rw [← hW1]; exact KB.out.alloc KB.out.size _
    have hsz : W1.heap.size = W.heap.size + 1 := by rw [← hW1]; simp
    have hgt : w.heap.size + 1 < W.heap.size := K1.out.lt
    have k1 : Blk W1 (w.heap.size + 1) (outW []) 23 := by rw [← hW1]; exact K1.out.alloc _
    have k3 : SixAt W1 W.heap.size a0 b0 a1 b1 a2 b2 := by rw [← hW1]; exact sixAt_new W 39 a0 b0 a1 b1 a2 b2
    rw [hW1]
    clear hW1
    refine wpIn_rangeFunc_ownH rfl (by omega) (gf := 57) (lb := #[.pointer (some ⟨W.heap.size, 0, none⟩)]) rfl trivial (enters_of Tryd.func57 (by kernel_rfl) rfl)
      (ciphers_stops a0 b0 a1 b1 a2 b2 4 (by omega) W.heap.size W1 (by omega) k3) walksK_t walksK_b (Below.refl _ _) (fun _ => rfl)
      (fun pre V => Blk V (w.heap.size + 1) (outW pre) 23 ∧ Below w.heap.size w V)
      (fun _ _ _ => False)
      (OwnFrom.and (blk_own outW) (ownFrom_below (Nat.le_refl _) (by omega)))
      (fun _ _ _ _ _ hs _ _ => hs)
      ⟨k1, hB0⟩
      (fun x a' V => ∃ Bc, w.heap.size + 1 < Bc ∧ Blk V Bc #[.int .i64 x.2.1, .int .i64 x.2.2] 31 ∧ a' = { tmps := #[sealedV a0 b0 a1 b1 a2 b2, .pointer (some ⟨w.heap.size, 0, none⟩), .pointer (some ⟨w.heap.size + 1, 0, none⟩), .int .i64 0, .int .i64 (x.1.val : Int), .pointer (some ⟨Bc, 0, none⟩), sealedV a0 b0 a1 b1 a2 b2, .int .i64 0, .int .i64 0, .bool false, undef, undef, sealedV a0 b0 a1 b1 a2 b2, .func (.func 57) #[] #[.pointer (some ⟨W.heap.size, 0, none⟩)], .int .i64 (x.1.val : Int), .agg #[.int .i64 x.2.1, .int .i64 x.2.2], undef, undef, undef, undef, undef, undef, undef, undef, undef], defers := [] })
      (fun x a' s X Y row h hg hr => by
        obtain ⟨Bc, h1, h2, h3⟩ := h
        exact ⟨Bc, h1, (blk_own (β := Unit) (B := W1.heap.size) fun _ => _) s X Y row h2 hg hr, h3⟩) ?assign ?body ?done ?stop
    case assign =>
      rintro l pre x V K ⟨j2, hB⟩ hK
      gi_wp2
      exact hK _ _ ((KeepsOthers.alloc _ _).from _) (KeepsWalks.alloc _ _) ⟨j2.alloc _, hB.alloc hB.size _⟩ ⟨V.heap.size, j2.lt, Blk.new _ _ _, rfl⟩
    case body =>
      rintro l pre ⟨i, A, B⟩ a' V hl hr ⟨j2, hB⟩ ⟨Bc, hBc, jc, rfl⟩ hlt
      have c1 := jc.cell 1
      simp at c1
      have J2 := Lib.hid j2; have HB := Lib.hid hB
      have hz3 := outW_size pre
      have e0 := fun o => (j2.cell o)
      have hfr := fun o => j2.frozen o
      have HSN := Lib.hid (outW_snoc pre (i, A, B))
      clear j2 jc hB hl hr hlt
      obtain ⟨iv, hiv⟩ := i
      have hiv2 : iv = 0 ∨ iv = 1 ∨ iv = 2 := by omega
      rcases hiv2 with rfl | rfl | rfl
      · have r0 := rc_some (w := V) (a := ⟨w.heap.size + 1, 0, none⟩) (by rw [e0]; exact ⟨_, Array.getElem?_eq_getElem (by omega)⟩)
        have g0 := hfr 0
        clear e0 hfr hz3
        dsimp only
        gi_wp2
        refine ⟨trivial, ?_⟩
        refine (CallsIn.inRound l (callsIn_wide.2 (number_n _ _))).mono ?_; rintro e w' ⟨rfl, rfl⟩
        gi_wp2
        exact ⟨(KeepsOthers.setCell _ _ _).from _, (KeepsOthers.setCell _ _ _).walks, ⟨by rw [HSN.out]; exact J2.out.set 0 _, HB.out.setCell (p := ⟨w.heap.size + 1, 0, none⟩) (by simp) _⟩⟩
      · have r0 := rc_some (w := V) (a := ⟨w.heap.size + 1, 1, none⟩) (by rw [e0]; exact ⟨_, Array.getElem?_eq_getElem (by omega)⟩)
        have g0 := hfr 1
        clear e0 hfr hz3
        dsimp only
        gi_wp2
        refine ⟨trivial, ?_⟩
        refine (CallsIn.inRound l (callsIn_wide.2 (number_n _ _))).mono ?_; rintro e w' ⟨rfl, rfl⟩
        gi_wp2
        exact ⟨(KeepsOthers.setCell _ _ _).from _, (KeepsOthers.setCell _ _ _).walks, ⟨by rw [HSN.out]; exact J2.out.set 1 _, HB.out.setCell (p := ⟨w.heap.size + 1, 1, none⟩) (by simp) _⟩⟩
      · have r0 := rc_some (w := V) (a := ⟨w.heap.size + 1, 2, none⟩) (by rw [e0]; exact ⟨_, Array.getElem?_eq_getElem (by omega)⟩)
        have g0 := hfr 2
        clear e0 hfr hz3
        dsimp only
        gi_wp2
        refine ⟨trivial, ?_⟩
        refine (CallsIn.inRound l (callsIn_wide.2 (number_n _ _))).mono ?_; rintro e w' ⟨rfl, rfl⟩
        gi_wp2
        exact ⟨(KeepsOthers.setCell _ _ _).from _, (KeepsOthers.setCell _ _ _).walks, ⟨by rw [HSN.out]; exact J2.out.set 2 _, HB.out.setCell (p := ⟨w.heap.size + 1, 2, none⟩) (by simp) _⟩⟩
    case done =>
      rintro D ys V hD rfl ⟨j1, hB⟩ hK
      have hout : outW [(0, a0, b0), (1, a1, b1), (2, a2, b2)] = #[.int .i64 (numZ b0), .int .i64 (numZ b1), .int .i64 (numZ b2)] := rfl
      rw [hout] at j1
      clear hout
      generalize hu0 : numZ b0 = u0 at j1
      have HU0 := Lib.hid hu0; clear hu0
      generalize hu1 : numZ b1 = u1 at j1
      have HU1 := Lib.hid hu1; clear hu1
      generalize hu2 : numZ b2 = u2 at j1
      have HU2 := Lib.hid hu2; clear hu2
      have c0 := j1.cell 0; have c1 := j1.cell 1; have c2 := j1.cell 2
      have d0 := j1.frozen 0; have d1 := j1.frozen 1; have d2 := j1.frozen 2
      simp at c0 c1 c2
      gi_wp2
      have hJ : Blk (((V.setCell ⟨w.heap.size + 1, 0, none⟩ (.int .i64 u0)).setCell ⟨w.heap.size + 1, 1, none⟩ (.int .i64 u1)).setCell ⟨w.heap.size + 1, 2, none⟩ (.int .i64 u2)) (w.heap.size + 1) #[.int .i64 u0, .int .i64 u1, .int .i64 u2] 23 := ((j1.set 0 (.int .i64 u0)).set 1 (.int .i64 u1)).set 2 (.int .i64 u2)
      have hO : KeepsOthers V (((V.setCell ⟨w.heap.size + 1, 0, none⟩ (.int .i64 u0)).setCell ⟨w.heap.size + 1, 1, none⟩ (.int .i64 u1)).setCell ⟨w.heap.size + 1, 2, none⟩ (.int .i64 u2)) := ((KeepsOthers.setCell _ _ _).trans (KeepsOthers.setCell _ _ _)).trans (KeepsOthers.setCell _ _ _)
      have hBw : Below w.heap.size w (((V.setCell ⟨w.heap.size + 1, 0, none⟩ (.int .i64 u0)).setCell ⟨w.heap.size + 1, 1, none⟩ (.int .i64 u1)).setCell ⟨w.heap.size + 1, 2, none⟩ (.int .i64 u2)) := ((hB.setCell (p := ⟨w.heap.size + 1, 0, none⟩) (by simp) _).setCell (p := ⟨w.heap.size + 1, 1, none⟩) (by simp) _).setCell (p := ⟨w.heap.size + 1, 2, none⟩) (by simp) _
      generalize (((V.setCell ⟨w.heap.size + 1, 0, none⟩ (.int .i64 u0)).setCell ⟨w.heap.size + 1, 1, none⟩ (.int .i64 u1)).setCell ⟨w.heap.size + 1, 2, none⟩ (.int .i64 u2)) = W2 at hJ hO hBw ⊢
      have hK' := hO.same D _ hK rfl
      refine ⟨by simp, .inl ⟨_, _, rfl, run_takeDeferred hK', ?_⟩⟩
      have e0 := cell_kept (hJ.cell 0) (grownBy_putObj' _ D (.deferred none)) (fun r e => by cases e; exact ⟨_, hK', rfl⟩)
      have e1 := cell_kept (hJ.cell 1) (grownBy_putObj' _ D (.deferred none)) (fun r e => by cases e; exact ⟨_, hK', rfl⟩)
      have e2 := cell_kept (hJ.cell 2) (grownBy_putObj' _ D (.deferred none)) (fun r e => by cases e; exact ⟨_, hK', rfl⟩)
      refine ⟨.tuple #[.agg #[.int .i64 u0, .int .i64 u1, .int .i64 u2], .int .i64 0], ?_, by rw [HN.out, HE.out, HU0.out, HU1.out, HU2.out], hBw.trans (belowK_b (w := w) (Nat.le_refl _) _ D _ _ (by omega) hK' rfl rfl)⟩
      simp [results, Tryd.f12, go_sem, e0, e1, e2]
    case stop =>
      rintro D c pre V _ _ h _
      exact h.elim

set_option maxRecDepth 100000 in
set_option maxHeartbeats 4000000 in
theorem read_no (a0 b0 a1 b1 a2 b2 : Int) (w : World) (hc : chkE a0 b0 a1 b1 a2 b2 = 100) :
    Calls Tryd.prog 12 #[sealedV a0 b0 a1 b1 a2 b2] w fun e w' => e = .returned (.tuple #[wordsV (0, 0, 0), .int .i64 100]) ∧ Below w.heap.size w w' := by
  go_enter Tryd.func12, Tryd.ntmps12
  go_wp2_with fail
  refine (check_any a0 b0 a1 b1 a2 b2 _).mono ?_
  rintro e W ⟨rfl, hb⟩
  rw [hc]
  obtain ⟨W0, hW⟩ : ∃ W, (w.alloc (.cells #[.int .i64 a0, .int .i64 b0, .int .i64 a1, .int .i64 b1, .int .i64 a2, .int .i64 b2] 39)).alloc (.cells #[.int .i64 0, .int .i64 0, .int .i64 0] 23) = W := ⟨_, rfl⟩
  have hB : Below w.heap.size w W0 := by rw [← hW]; exact (bel_alloc1 _ _).alloc (by simp) _
  have k1 : Blk W0 (w.heap.size + 1) #[.int .i64 0, .int .i64 0, .int .i64 0] 23 := by
    rw [← hW]; have h := Blk.new (w.alloc (.cells #[.int .i64 a0, .int .i64 b0, .int .i64 a1, .int .i64 b1, .int .i64 a2, .int .i64 b2] 39)) #[.int .i64 0, .int .i64 0, .int .i64 0] 23
    rw [World.size_alloc] at h; exact h
  rw [hW] at hb
  clear hW hc
  have K1 := Lib.hid (k1.below hb k1.lt); have KB := Lib.hid (bel_trans hB hb)
  clear k1 hB hb
  have c0 := K1.out.cell 0; have c1 := K1.out.cell 1; have c2 := K1.out.cell 2
  have d0 := K1.out.frozen 0; have d1 := K1.out.frozen 1; have d2 := K1.out.frozen 2
  simp at c0 c1 c2
  go_wp2_with fail
  have hJ : Blk (((W.setCell ⟨w.heap.size + 1, 0, none⟩ (.int .i64 0)).setCell ⟨w.heap.size + 1, 1, none⟩ (.int .i64 0)).setCell ⟨w.heap.size + 1, 2, none⟩ (.int .i64 0)) (w.heap.size + 1) #[.int .i64 0, .int .i64 0, .int .i64 0] 23 := ((K1.out.set 0 (.int .i64 0)).set 1 (.int .i64 0)).set 2 (.int .i64 0)
  have hBw : Below w.heap.size w (((W.setCell ⟨w.heap.size + 1, 0, none⟩ (.int .i64 0)).setCell ⟨w.heap.size + 1, 1, none⟩ (.int .i64 0)).setCell ⟨w.heap.size + 1, 2, none⟩ (.int .i64 0)) := ((KB.out.setCell (p := ⟨w.heap.size + 1, 0, none⟩) (by simp) _).setCell (p := ⟨w.heap.size + 1, 1, none⟩) (by simp) _).setCell (p := ⟨w.heap.size + 1, 2, none⟩) (by simp) _
  generalize (((W.setCell ⟨w.heap.size + 1, 0, none⟩ (.int .i64 0)).setCell ⟨w.heap.size + 1, 1, none⟩ (.int .i64 0)).setCell ⟨w.heap.size + 1, 2, none⟩ (.int .i64 0)) = W2 at hJ hBw ⊢
  have e0 := hJ.cell 0; have e1 := hJ.cell 1; have e2 := hJ.cell 2
  refine bodyPost_ret (v := .tuple #[.agg #[.int .i64 0, .int .i64 0, .int .i64 0], .int .i64 100]) (by simp [results, Tryd.f12, go_sem, e0, e1, e2]) rfl ⟨rfl, hBw⟩

def readE (s : Let) : Int := chkE s.1.1 s.1.2 s.2.1.1 s.2.1.2 s.2.2.1 s.2.2.2
def readR (s : Let) : W3 := if readE s = 0 then (numZ s.1.2, numZ s.2.1.2, numZ s.2.2.2) else (0, 0, 0)
theorem chkE_or (a0 b0 a1 b1 a2 b2 : Int) : chkE a0 b0 a1 b1 a2 b2 = 0 ∨ chkE a0 b0 a1 b1 a2 b2 = 100 := by unfold chkE; split <;> simp

theorem read_any (s : Let) (w : World) :
    Calls Tryd.prog 12 #[letV s] w fun e w' => e = .returned (.tuple #[wordsV (readR s), .int .i64 (readE s)]) ∧ Below w.heap.size w w' := by
  rcases chkE_or s.1.1 s.1.2 s.2.1.1 s.2.1.2 s.2.2.1 s.2.2.2 with h | h
  · have e1 : readE s = 0 := h
    have e2 : readR s = (numZ s.1.2, numZ s.2.1.2, numZ s.2.2.2) := by unfold readR; rw [e1, if_pos rfl]
    rw [e1, e2]
    exact callsIn_wide.1 (read_yes _ _ _ _ _ _ w _ _ h rfl rfl)
  · have e1 : readE s = 100 := h
    have e2 : readR s = (0, 0, 0) := by unfold readR; rw [e1, if_neg (by decide)]
    rw [e1, e2]
    exact read_no _ _ _ _ _ _ w h
end Go.Proofs.YtpjobllfiimdkaaDoor
namespace Go.Proofs.YtpjobllfiimdkaaDoor
set_option linter.unusedVariables false
@[go_sem high] theorem idxS0 (a b c d e f : Int) (w : World) : (Instr.index 39 (.agg #[.int .i64 a, .int .i64 b, .int .i64 c, .int .i64 d, .int .i64 e, .int .i64 f]) (.int .i64 0)).run Tryd.prog w = .ok (.agg #[.int .i64 a, .int .i64 b]) w := by kernel_rfl
@[go_sem high] theorem idxS1 (a b c d e f : Int) (w : World) : (Instr.index 39 (.agg #[.int .i64 a, .int .i64 b, .int .i64 c, .int .i64 d, .int .i64 e, .int .i64 f]) (.int .i64 1)).run Tryd.prog w = .ok (.agg #[.int .i64 c, .int .i64 d]) w := by kernel_rfl
@[go_sem high] theorem idxS2 (a b c d e f : Int) (w : World) : (Instr.index 39 (.agg #[.int .i64 a, .int .i64 b, .int .i64 c, .int .i64 d, .int .i64 e, .int .i64 f]) (.int .i64 2)).run Tryd.prog w = .ok (.agg #[.int .i64 e, .int .i64 f]) w := by kernel_rfl
@[go_sem high] theorem idxW0 (a b c : Int) (w : World) : (Instr.index 23 (.agg #[.int .i64 a, .int .i64 b, .int .i64 c]) (.int .i64 0)).run Tryd.prog w = .ok (.int .i64 a) w := by kernel_rfl
@[go_sem high] theorem idxW1 (a b c : Int) (w : World) : (Instr.index 23 (.agg #[.int .i64 a, .int .i64 b, .int .i64 c]) (.int .i64 1)).run Tryd.prog w = .ok (.int .i64 b) w := by kernel_rfl
@[go_sem high] theorem idxW2 (a b c : Int) (w : World) : (Instr.index 23 (.agg #[.int .i64 a, .int .i64 b, .int .i64 c]) (.int .i64 2)).run Tryd.prog w = .ok (.int .i64 c) w := by kernel_rfl
end Go.Proofs.YtpjobllfiimdkaaDoor
namespace Go.Proofs.YtpjobllfiimdkaaDoor
open Go.ChangeShapes Go.WideShapes Go.ChangeAt Go.RowKit Go.Shelf
set_option linter.unusedVariables false

theorem chk_six {a0 b0 a1 b1 a2 b2 : Int} (h : chkB a0 b0 a1 b1 a2 b2 = true) : elB a0 = true ∧ elB b0 = true ∧ elB a1 = true ∧ elB b1 = true ∧ elB a2 = true ∧ elB b2 = true := by
  unfold chkB six okC at h; simp at h; exact ⟨h.1.1, h.1.2, h.2.1.1, h.2.1.2, h.2.2.1, h.2.2.2⟩
theorem chk_of {a0 b0 a1 b1 a2 b2 : Int} (h0 : elB a0 = true) (h1 : elB b0 = true) (h2 : elB a1 = true) (h3 : elB b1 = true) (h4 : elB a2 = true) (h5 : elB b2 = true) : chkE a0 b0 a1 b1 a2 b2 = 0 := by
  unfold chkE chkB six okC; simp [h0, h1, h2, h3, h4, h5]
end Go.Proofs.YtpjobllfiimdkaaDoor
namespace Go.Proofs.YtpjobllfiimdkaaDoor
set_option linter.unusedVariables false

theorem elm_range {n : Int} (h : 1 ≤ n ∧ n ≤ 1073741789) : elB (elmZ n) = true := by
  unfold elmZ; rw [if_pos h]
  cases hv : elB n with
  | true => rw [if_pos rfl]; exact hv
  | false => rw [if_neg (by simp), element_low (by omega) (by omega), hv]; rfl

/-- different numbers have different elements -/
theorem elm_inj {n m : Int} (h : 1 ≤ n ∧ n ≤ 1073741789) (k : 1 ≤ m ∧ m ≤ 1073741789) : (elmZ n == elmZ m) = (n == m) := by
  by_cases e : n = m
  · subst e; simp
  · rw [beq_eq_false_iff_ne.2 e, beq_eq_false_iff_ne]
    unfold elmZ; rw [if_pos h, if_pos k]
    split <;> split <;> omega

theorem num_elm {n : Int} (h : 1 ≤ n ∧ n ≤ 1073741789) : numZ (elmZ n) = n ∧ numE (elmZ n) = 0 := by
  have hr := elm_range h
  unfold numZ numE; rw [hr, if_pos rfl, if_pos rfl]
  refine ⟨?_, rfl⟩
  unfold elmZ; rw [if_pos h]
  split <;> split <;> omega

theorem elm_num {n : Int} (h : elB n = true) : (1 ≤ numZ n ∧ numZ n ≤ 1073741789) ∧ elmZ (numZ n) = n := by
  obtain ⟨h1, h2⟩ := elB_iff h
  unfold numZ; rw [h, if_pos rfl]
  by_cases c : n ≤ 1073741789
  · rw [if_pos c]
    refine ⟨by omega, ?_⟩
    unfold elmZ; rw [if_pos (by omega), h]; rfl
  · rw [if_neg c]
    refine ⟨by omega, ?_⟩
    unfold elmZ; rw [if_pos (by omega), element_low (by omega) (by omega), h]
    show (if (false = true) then _ else _) = n
    rw [if_neg (by simp)]; omega

end Go.Proofs.YtpjobllfiimdkaaDoor
