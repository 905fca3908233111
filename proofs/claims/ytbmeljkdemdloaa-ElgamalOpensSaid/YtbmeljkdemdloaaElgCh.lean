/- Package elgamal: a letter whose ciphers are changed, one change after the other. -/
import Derived.Test.YtbmeljkdemdloaaElgIt
namespace Go.Proofs.Ytbmeljkdemdloaa
open Go.RowKit Go.Shelf
set_option linter.unusedVariables false
attribute [local go_sem] Oper.semAt_some

/-- a block of cells, known whole -/
def Blk (W : World) (b : Nat) (c : Array Value) (t : TypeId) : Prop := W.heap[b]? = some (.cells c t (0, 0))
theorem Blk.new (W : World) (c : Array Value) (t : TypeId) : Blk (W.alloc (.cells c t)) W.heap.size c t := World.alloc_heap_new W _
theorem Blk.lt {W : World} {b : Nat} {c : Array Value} {t : TypeId} (h : Blk W b c t) : b < W.heap.size := (Array.getElem?_eq_some_iff.1 h).1
theorem Blk.below {W W' : World} {n b : Nat} {c : Array Value} {t : TypeId} (h : Blk W b c t) (k : Below n W W') (hb : b < n) : Blk W' b c t := (k.block b hb).trans h
theorem Blk.alloc {W : World} {b : Nat} {c : Array Value} {t : TypeId} (h : Blk W b c t) (o : Obj) : Blk (W.alloc o) b c t := h.below (bel_alloc1 W o) h.lt
theorem Blk.cell {W : World} {b : Nat} {c : Array Value} {t : TypeId} (h : Blk W b c t) (o : Nat) : W.cell? ⟨b, o, none⟩ = c[o]? := by
  simp [World.cell?, show W.heap[b]? = _ from h]
theorem Blk.frozen {W : World} {b : Nat} {c : Array Value} {t : TypeId} (h : Blk W b c t) (o : Nat) : W.frozen? ⟨b, o, none⟩ = false := by
  simp [World.frozen?, show W.heap[b]? = _ from h]
theorem Blk.set {W : World} {b : Nat} {c : Array Value} {t : TypeId} (h : Blk W b c t) (o : Nat) (v : Value) : Blk (W.setCell ⟨b, o, none⟩ v) b (c.setIfInBounds o v) t := by
  obtain ⟨hlt, hk⟩ := Array.getElem?_eq_some_iff.1 h
  show (W.heap.modify b _)[b]? = _
  rw [Array.getElem?_eq_getElem (by rw [Array.size_modify]; exact hlt), Array.getElem_modify_self, hk]
  rfl
theorem Blk.other {W : World} {b b' : Nat} {c : Array Value} {t : TypeId} (h : Blk W b c t) (o : Nat) (v : Value) (hne : b ≠ b') : Blk (W.setCell ⟨b', o, none⟩ v) b c t :=
  (Below.heap_setCell W ⟨b', o, none⟩ v b hne).trans h
theorem blk_own {β : Type} {B b : Nat} {t : TypeId} (c : β → Array Value) : OwnFrom B (fun (s : β) W => Blk W b (c s) t) := by
  intro s X Y row h hg hr
  refine (hg.block b h.lt ?_).trans h
  intro e
  obtain ⟨_, o, ho, hc⟩ := hr b e.symm
  rw [show X.heap[b]? = _ from h] at ho; cases ho; cases hc

theorem keeps_below {W W' : World} (h : Below W.heap.size W W') : KeepsOthers W W' :=
  ⟨h.size, fun k o hk _ => (h.block k (Array.getElem?_eq_some_iff.1 hk).1).trans hk⟩

/-- changes of a cipher, one after the other -/
def ap (g : Nat → Nat → Int × Int → Int × Int) (i : Nat) : Nat → Int × Int → Int × Int
  | 0, c => c
  | k + 1, c => g k i (ap g i k c)

/-- what the result holds when some ciphers have come -/
def outC (g : Nat → Nat → Int × Int → Int × Int) (n : Nat) (pre : List Cip) : Array Value :=
  pre.foldl (fun c x => (c.setIfInBounds (2 * x.1.val) (.int .i64 (ap g x.1.val n x.2).1)).setIfInBounds (2 * x.1.val + 1) (.int .i64 (ap g x.1.val n x.2).2)) #[.int .i64 0, .int .i64 0, .int .i64 0, .int .i64 0, .int .i64 0, .int .i64 0]
theorem outC_snoc (g : Nat → Nat → Int × Int → Int × Int) (n : Nat) (pre : List Cip) (x : Cip) :
    outC g n (pre ++ [x]) = ((outC g n pre).setIfInBounds (2 * x.1.val) (.int .i64 (ap g x.1.val n x.2).1)).setIfInBounds (2 * x.1.val + 1) (.int .i64 (ap g x.1.val n x.2).2) := by
  simp [outC]
theorem outC_size (g : Nat → Nat → Int × Int → Int × Int) (n : Nat) (pre : List Cip) : (outC g n pre).size = 6 := by
  unfold outC
  have : ∀ (l : List Cip) (c : Array Value), c.size = 6 → (l.foldl (fun c x => (c.setIfInBounds (2 * x.1.val) (.int .i64 (ap g x.1.val n x.2).1)).setIfInBounds (2 * x.1.val + 1) (.int .i64 (ap g x.1.val n x.2).2)) c).size = 6 := by
    intro l
    induction l with
    | nil => intro c h; exact h
    | cons x l ih => intro c h; simp only [List.foldl]; exact ih _ (by simp [h])
  exact this _ _ rfl

/-- what is known of a list of changes: each is a function value, and what it makes of a cipher -/
def Chs (w : World) (bl n : Nat) (K : Nat → Nat) (cap : Nat → Array Value) (g : Nat → Nat → Int × Int → Int × Int) : Prop :=
  ∀ k, k < n → w.cell? ⟨bl, k, none⟩ = some (.func (.func (K k)) #[] (cap k)) ∧ (∀ args W, (callFunc (K k) args).run Try.prog W = .ok (.enter (K k) args) W) ∧
    ∀ (i : Nat) (A B : Int) (W : World), i < 3 → Below w.heap.size w W →
      Calls Try.prog (K k) (#[.int .i64 i, .agg #[.int .i64 A, .int .i64 B]] ++ cap k) W fun e W' => e = .returned (.agg #[.int .i64 (g k i (A, B)).1, .int .i64 (g k i (A, B)).2]) ∧ Below W.heap.size W W'

set_option maxRecDepth 100000 in
set_option maxHeartbeats 2000000 in
theorem changed_in (a0 b0 a1 b1 a2 b2 : Int) (bl n capl : Nat) (K : Nat → Nat) (cap : Nat → Array Value) (g : Nat → Nat → Int × Int → Int × Int) (w : World)
    (hn : n ≤ 9223372036854775807) (hbl : bl < w.heap.size) (hch : Hid (Chs w bl n K cap g)) :
    CallsIn Fence.wide 5 Try.prog 41 #[sealedV a0 b0 a1 b1 a2 b2, .slice (some ⟨bl, 0, none⟩) n capl] w
      fun e w' => e = .returned (sealedV (ap g 0 n (a0, b0)).1 (ap g 0 n (a0, b0)).2 (ap g 1 n (a1, b1)).1 (ap g 1 n (a1, b1)).2 (ap g 2 n (a2, b2)).1 (ap g 2 n (a2, b2)).2) ∧ Below w.heap.size w w' := by
  refine callsIn_of_wp_marks Try.func41 rfl trivial ?_ rfl
  simp only [Try.ntmps41, List.size_toArray, List.length_cons, List.length_nil, Nat.reduceAdd, Nat.reduceSub, Array.replicate_succ, Array.replicate_zero, List.push_toArray, List.append_toArray, List.nil_append, List.cons_append]
  gi_wp2
  refine ⟨trivial, ?_⟩
  refine (callsIn_wide.2 (ciphers_any _ _ _ _ _ _ (w.heap.size + 1 + 1 + 1) _ (by simp))).mono ?_; rintro e w' ⟨rfl, rfl⟩
  gi_wp2
  obtain ⟨W1, hW1⟩ : ∃ W1, (((w.alloc (.cells #[.int .i64 a0, .int .i64 b0, .int .i64 a1, .int .i64 b1, .int .i64 a2, .int .i64 b2] 34)).alloc (.cells #[.slice (some ⟨bl, 0, none⟩) n capl] 76)).alloc (.cells #[.int .i64 0, .int .i64 0, .int .i64 0, .int .i64 0, .int .i64 0, .int .i64 0] 34)).alloc (.cells #[.int .i64 a0, .int .i64 b0, .int .i64 a1, .int .i64 b1, .int .i64 a2, .int .i64 b2] 34) = W1 := ⟨_, rfl⟩
  have hB0 : Below w.heap.size w W1 := by
    rw [← hW1]; exact (((bel_alloc1 _ _).alloc (by simp) _).alloc (by simp; omega) _).alloc (by simp; omega) _
  have hsz : W1.heap.size = w.heap.size + 4 := by rw [← hW1]; simp
  have k1 : Blk W1 (w.heap.size + 1) #[.slice (some ⟨bl, 0, none⟩) n capl] 76 := by
    rw [← hW1]; have h := Blk.new (w.alloc (.cells #[.int .i64 a0, .int .i64 b0, .int .i64 a1, .int .i64 b1, .int .i64 a2, .int .i64 b2] 34)) #[.slice (some ⟨bl, 0, none⟩) n capl] 76
    rw [World.size_alloc] at h; exact (h.alloc _).alloc _
  have k2 : Blk W1 (w.heap.size + 1 + 1) (outC g n []) 34 := by
    rw [← hW1]; have h := Blk.new ((w.alloc (.cells #[.int .i64 a0, .int .i64 b0, .int .i64 a1, .int .i64 b1, .int .i64 a2, .int .i64 b2] 34)).alloc (.cells #[.slice (some ⟨bl, 0, none⟩) n capl] 76)) (outC g n []) 34
    rw [World.size_alloc, World.size_alloc] at h; exact h.alloc _
  have k3 : SixAt W1 (w.heap.size + 1 + 1 + 1) a0 b0 a1 b1 a2 b2 := by
    rw [← hW1]; have h := sixAt_new (((w.alloc (.cells #[.int .i64 a0, .int .i64 b0, .int .i64 a1, .int .i64 b1, .int .i64 a2, .int .i64 b2] 34)).alloc (.cells #[.slice (some ⟨bl, 0, none⟩) n capl] 76)).alloc (.cells #[.int .i64 0, .int .i64 0, .int .i64 0, .int .i64 0, .int .i64 0, .int .i64 0] 34)) 34 a0 b0 a1 b1 a2 b2
    rw [World.size_alloc, World.size_alloc, World.size_alloc] at h; exact h
  rw [hW1]
  clear hW1
  refine wpIn_rangeFunc_ownH rfl (by omega) (gf := 58) (lb := #[.pointer (some ⟨w.heap.size + 1 + 1 + 1, 0, none⟩)]) rfl trivial (enters_of Try.func58 (by kernel_rfl) rfl)
    (ciphers_stops a0 b0 a1 b1 a2 b2 4 (by omega) (w.heap.size + 1 + 1 + 1) W1 (by omega) k3) walksK_t walksK_b (Below.refl _ _) (fun _ => rfl)
    (fun pre W => (Blk W (w.heap.size + 1 + 1) (outC g n pre) 34 ∧ Blk W (w.heap.size + 1) #[.slice (some ⟨bl, 0, none⟩) n capl] 76) ∧ Below w.heap.size w W)
    (fun _ _ _ => False)
    (OwnFrom.and (OwnFrom.and (blk_own (outC g n)) (blk_own fun _ => _)) (ownFrom_below (Nat.le_refl _) (by omega)))
    (fun _ _ _ _ _ hs _ _ => hs)
    ⟨⟨k2, k1⟩, hB0⟩
    (fun x a' W => ∃ Bc, w.heap.size + 1 + 1 < Bc ∧ Blk W Bc #[.int .i64 x.2.1, .int .i64 x.2.2] 32 ∧ a' = { tmps := #[sealedV a0 b0 a1 b1 a2 b2, .slice (some ⟨bl, 0, none⟩) n capl, .pointer (some ⟨w.heap.size, 0, none⟩), .pointer (some ⟨w.heap.size + 1, 0, none⟩), .pointer (some ⟨w.heap.size + 1 + 1, 0, none⟩), .int .i64 (x.1.val : Int), .pointer (some ⟨Bc, 0, none⟩), undef, undef, sealedV a0 b0 a1 b1 a2 b2, .func (.func 58) #[] #[.pointer (some ⟨w.heap.size + 1 + 1 + 1, 0, none⟩)], .int .i64 (x.1.val : Int), .agg #[.int .i64 x.2.1, .int .i64 x.2.2], undef, undef, undef, undef, undef, undef, undef, undef, undef, undef, undef, undef, undef, undef, undef], defers := [] })
    (fun x a' s X Y row h hg hr => by
      obtain ⟨Bc, h1, h2, h3⟩ := h
      exact ⟨Bc, h1, (blk_own (β := Unit) (B := W1.heap.size) fun _ => _) s X Y row h2 hg hr, h3⟩) ?assign ?body ?done ?stop
  case assign =>
    rintro l pre x W K ⟨⟨j1, j2⟩, hB⟩ hK
    gi_wp2
    exact hK _ _ ((KeepsOthers.alloc _ _).from _) (KeepsWalks.alloc _ _) ⟨⟨j1.alloc _, j2.alloc _⟩, hB.alloc hB.size _⟩ ⟨W.heap.size, j1.lt, Blk.new _ _ _, rfl⟩
  case body =>
    rintro l pre ⟨i, A, B⟩ a' W hl hr ⟨⟨j1, j2⟩, hB⟩ ⟨Bc, hBc, jc, rfl⟩ hlt
    have q1 := j2.cell 0
    simp at q1
    have J1 := Lib.hid j1; have J2 := Lib.hid j2; have JC := Lib.hid jc; have HB := Lib.hid hB
    have hi : i.val < 3 := i.isLt
    have HSN := Lib.hid (outC_snoc g n pre (i, A, B))
    clear j1 j2 jc hB hl hr hlt
    gi_wp2
    gi_loopw [15] (fun x wr => ∃ k : Nat, k ≤ n ∧ x = .int .i64 k ∧ Hid (Blk wr Bc #[.int .i64 (ap g i.val k (A, B)).1, .int .i64 (ap g i.val k (A, B)).2] 32 ∧ Blk wr (w.heap.size + 1 + 1) (outC g n pre) 34 ∧ Blk wr (w.heap.size + 1) #[.slice (some ⟨bl, 0, none⟩) n capl] 76 ∧ Below w.heap.size w wr ∧ KeepsOthers W wr)) (fun x _ => n - (intOf x).toNat)
    case atStart => exact ⟨0, Nat.zero_le _, rfl, JC.out, J1.out, J2.out, HB.out, KeepsOthers.refl _⟩
    case round =>
      obtain ⟨k, hk, rfl, hrl⟩ := hrel
      by_cases hlt : k < n
      · obtain ⟨m1, m2, m3, m4, m5⟩ := hrl.out
        have hck := hch.out k hlt
        have f1 : wr.cell? ⟨bl, k, none⟩ = some (.func (.func (K k)) #[] (cap k)) := (m4.cell (p := ⟨bl, k, none⟩) hbl).trans hck.1
        have c1 := m1.cell 0
        have c2 := m1.cell 1
        have d1 := m1.frozen 0
        have d2 := m1.frozen 1
        simp at c1 c2
        have he := hck.2.1 (#[.int .i64 i.val, .agg #[.int .i64 (ap g i.val k (A, B)).1, .int .i64 (ap g i.val k (A, B)).2]] ++ cap k) wr
        have HC := Lib.hid (hck.2.2 i.val (ap g i.val k (A, B)).1 (ap g i.val k (A, B)).2 wr hi m4)
        clear hck m1 m2 m3 m4 m5 q1
        gi_wp2
        refine ⟨trivial, (CallsIn.inRound l (callsIn_wide.2 HC.out)).mono ?_⟩
        rintro e w1 ⟨rfl, hb⟩
        clear c1 c2 d1 d2 f1 he
        obtain ⟨m1, m2, m3, m4, m5⟩ := hrl.out
        have n1 := m1.below hb m1.lt
        have n2 := m2.below hb m2.lt
        have n3 := m3.below hb m3.lt
        have n4 := bel_trans (w1 := wr) m4 hb
        have n5 := m5.trans (keeps_below hb)
        have c1 := n1.cell 0
        have c2 := n1.cell 1
        have d1 := n1.frozen 0
        have d2 := n1.frozen 1
        simp at c1 c2
        have N1 := Lib.hid n1; have N2 := Lib.hid n2; have N3 := Lib.hid n3; have N4 := Lib.hid n4; have N5 := Lib.hid n5
        clear m1 m2 m3 m4 m5 n1 n2 n3 n4 n5 hb
        gi_wp2
        go_roundw
        case rel =>
          refine ⟨k + 1, by omega, by go_num, ?_⟩
          refine ⟨((N1.out.set 0 _).set 1 _), (N2.out.other 0 _ (by omega)).other 1 _ (by omega), (N3.out.other 0 _ (by omega)).other 1 _ (by omega), (N4.out.setCell (p := ⟨Bc, 0, none⟩) (by simp; omega) _).setCell (p := ⟨Bc, 1, none⟩) (by simp; omega) _, (N5.out.trans (KeepsOthers.setCell _ _ _)).trans (KeepsOthers.setCell _ _ _)⟩
        case measure => simp [intOf]; omega
      · obtain rfl : k = n := by omega
        obtain ⟨m1, m2, m3, m4, m5⟩ := hrl.out
        have c1 := m1.cell 0
        have c2 := m1.cell 1
        simp at c1 c2
        obtain ⟨iv, hiv⟩ := i
        have hz6 := outC_size g k pre
        have e0 := fun o => (m2.cell o)
        have M2 := Lib.hid m2; have M3 := Lib.hid m3; have M4 := Lib.hid m4; have M5 := Lib.hid m5
        have hfr := fun o => m2.frozen o
        have hiv2 : iv = 0 ∨ iv = 1 ∨ iv = 2 := by omega
        clear m1 m2 m3 m4 m5 q1
        rcases hiv2 with rfl | rfl | rfl
        · have r0 := rc_some (w := wr) (a := ⟨w.heap.size + 1 + 1, 0, none⟩) (by rw [e0]; exact ⟨_, Array.getElem?_eq_getElem (by omega)⟩)
          have r1 := rc_some (w := wr) (a := ⟨w.heap.size + 1 + 1, 1, none⟩) (by rw [e0]; exact ⟨_, Array.getElem?_eq_getElem (by omega)⟩)
          have g0 := hfr 0
          have g1 := hfr 1
          clear e0 hfr hz6
          dsimp only
          gi_wp2
          refine ⟨((M5.out.trans (KeepsOthers.setCell _ _ _)).trans (KeepsOthers.setCell _ _ _)).from _, ((M5.out.trans (KeepsOthers.setCell _ _ _)).trans (KeepsOthers.setCell _ _ _)).walks, ⟨⟨by rw [show outC g k (pre ++ [((0 : Fin 3), A, B)]) = _ from HSN.out]; exact (M2.out.set 0 _).set 1 _, (M3.out.other 0 _ (by omega)).other 1 _ (by omega)⟩, (M4.out.setCell (p := ⟨w.heap.size + 1 + 1, 0, none⟩) (by simp; omega) _).setCell (p := ⟨w.heap.size + 1 + 1, 1, none⟩) (by simp; omega) _⟩⟩
        · have r0 := rc_some (w := wr) (a := ⟨w.heap.size + 1 + 1, 2, none⟩) (by rw [e0]; exact ⟨_, Array.getElem?_eq_getElem (by omega)⟩)
          have r1 := rc_some (w := wr) (a := ⟨w.heap.size + 1 + 1, 3, none⟩) (by rw [e0]; exact ⟨_, Array.getElem?_eq_getElem (by omega)⟩)
          have g0 := hfr 2
          have g1 := hfr 3
          clear e0 hfr hz6
          dsimp only
          gi_wp2
          refine ⟨((M5.out.trans (KeepsOthers.setCell _ _ _)).trans (KeepsOthers.setCell _ _ _)).from _, ((M5.out.trans (KeepsOthers.setCell _ _ _)).trans (KeepsOthers.setCell _ _ _)).walks, ⟨⟨by rw [show outC g k (pre ++ [((1 : Fin 3), A, B)]) = _ from HSN.out]; exact (M2.out.set 2 _).set 3 _, (M3.out.other 2 _ (by omega)).other 3 _ (by omega)⟩, (M4.out.setCell (p := ⟨w.heap.size + 1 + 1, 2, none⟩) (by simp; omega) _).setCell (p := ⟨w.heap.size + 1 + 1, 3, none⟩) (by simp; omega) _⟩⟩
        · have r0 := rc_some (w := wr) (a := ⟨w.heap.size + 1 + 1, 4, none⟩) (by rw [e0]; exact ⟨_, Array.getElem?_eq_getElem (by omega)⟩)
          have r1 := rc_some (w := wr) (a := ⟨w.heap.size + 1 + 1, 5, none⟩) (by rw [e0]; exact ⟨_, Array.getElem?_eq_getElem (by omega)⟩)
          have g0 := hfr 4
          have g1 := hfr 5
          clear e0 hfr hz6
          dsimp only
          gi_wp2
          refine ⟨((M5.out.trans (KeepsOthers.setCell _ _ _)).trans (KeepsOthers.setCell _ _ _)).from _, ((M5.out.trans (KeepsOthers.setCell _ _ _)).trans (KeepsOthers.setCell _ _ _)).walks, ⟨⟨by rw [show outC g k (pre ++ [((2 : Fin 3), A, B)]) = _ from HSN.out]; exact (M2.out.set 4 _).set 5 _, (M3.out.other 4 _ (by omega)).other 5 _ (by omega)⟩, (M4.out.setCell (p := ⟨w.heap.size + 1 + 1, 4, none⟩) (by simp; omega) _).setCell (p := ⟨w.heap.size + 1 + 1, 5, none⟩) (by simp; omega) _⟩⟩
  case done =>
    rintro D ys W hD rfl ⟨⟨j1, j2⟩, hB⟩ hK
    have hout : outC g n [(0, a0, b0), (1, a1, b1), (2, a2, b2)] = #[.int .i64 (ap g 0 n (a0, b0)).1, .int .i64 (ap g 0 n (a0, b0)).2, .int .i64 (ap g 1 n (a1, b1)).1, .int .i64 (ap g 1 n (a1, b1)).2, .int .i64 (ap g 2 n (a2, b2)).1, .int .i64 (ap g 2 n (a2, b2)).2] := rfl
    rw [hout] at j1
    clear hout
    generalize hu0 : (ap g 0 n (a0, b0)).1 = u0 at j1
    have HU0 := Lib.hid hu0
    clear hu0
    generalize hu1 : (ap g 0 n (a0, b0)).2 = u1 at j1
    have HU1 := Lib.hid hu1
    clear hu1
    generalize hu2 : (ap g 1 n (a1, b1)).1 = u2 at j1
    have HU2 := Lib.hid hu2
    clear hu2
    generalize hu3 : (ap g 1 n (a1, b1)).2 = u3 at j1
    have HU3 := Lib.hid hu3
    clear hu3
    generalize hu4 : (ap g 2 n (a2, b2)).1 = u4 at j1
    have HU4 := Lib.hid hu4
    clear hu4
    generalize hu5 : (ap g 2 n (a2, b2)).2 = u5 at j1
    have HU5 := Lib.hid hu5
    clear hu5
    have c0 := j1.cell 0
    have c1 := j1.cell 1
    have c2 := j1.cell 2
    have c3 := j1.cell 3
    have c4 := j1.cell 4
    have c5 := j1.cell 5
    have d0 := j1.frozen 0
    have d1 := j1.frozen 1
    have d2 := j1.frozen 2
    have d3 := j1.frozen 3
    have d4 := j1.frozen 4
    have d5 := j1.frozen 5
    simp at c0 c1 c2 c3 c4 c5
    gi_wp2
    have hJ : Blk ((((((W.setCell ⟨w.heap.size + 1 + 1, 0, none⟩ (.int .i64 u0)).setCell ⟨w.heap.size + 1 + 1, 1, none⟩ (.int .i64 u1)).setCell ⟨w.heap.size + 1 + 1, 2, none⟩ (.int .i64 u2)).setCell ⟨w.heap.size + 1 + 1, 3, none⟩ (.int .i64 u3)).setCell ⟨w.heap.size + 1 + 1, 4, none⟩ (.int .i64 u4)).setCell ⟨w.heap.size + 1 + 1, 5, none⟩ (.int .i64 u5)) (w.heap.size + 1 + 1) #[.int .i64 u0, .int .i64 u1, .int .i64 u2, .int .i64 u3, .int .i64 u4, .int .i64 u5] 34 := ((((((j1.set 0 (.int .i64 u0)).set 1 (.int .i64 u1)).set 2 (.int .i64 u2)).set 3 (.int .i64 u3)).set 4 (.int .i64 u4)).set 5 (.int .i64 u5))
    have hO : KeepsOthers W ((((((W.setCell ⟨w.heap.size + 1 + 1, 0, none⟩ (.int .i64 u0)).setCell ⟨w.heap.size + 1 + 1, 1, none⟩ (.int .i64 u1)).setCell ⟨w.heap.size + 1 + 1, 2, none⟩ (.int .i64 u2)).setCell ⟨w.heap.size + 1 + 1, 3, none⟩ (.int .i64 u3)).setCell ⟨w.heap.size + 1 + 1, 4, none⟩ (.int .i64 u4)).setCell ⟨w.heap.size + 1 + 1, 5, none⟩ (.int .i64 u5)) := (((((((KeepsOthers.refl W).trans (KeepsOthers.setCell _ _ _)).trans (KeepsOthers.setCell _ _ _)).trans (KeepsOthers.setCell _ _ _)).trans (KeepsOthers.setCell _ _ _)).trans (KeepsOthers.setCell _ _ _)).trans (KeepsOthers.setCell _ _ _))
    have hBw : Below w.heap.size w ((((((W.setCell ⟨w.heap.size + 1 + 1, 0, none⟩ (.int .i64 u0)).setCell ⟨w.heap.size + 1 + 1, 1, none⟩ (.int .i64 u1)).setCell ⟨w.heap.size + 1 + 1, 2, none⟩ (.int .i64 u2)).setCell ⟨w.heap.size + 1 + 1, 3, none⟩ (.int .i64 u3)).setCell ⟨w.heap.size + 1 + 1, 4, none⟩ (.int .i64 u4)).setCell ⟨w.heap.size + 1 + 1, 5, none⟩ (.int .i64 u5)) := ((((((hB.setCell (p := ⟨w.heap.size + 1 + 1, 0, none⟩) (by simp; omega) _).setCell (p := ⟨w.heap.size + 1 + 1, 1, none⟩) (by simp; omega) _).setCell (p := ⟨w.heap.size + 1 + 1, 2, none⟩) (by simp; omega) _).setCell (p := ⟨w.heap.size + 1 + 1, 3, none⟩) (by simp; omega) _).setCell (p := ⟨w.heap.size + 1 + 1, 4, none⟩) (by simp; omega) _).setCell (p := ⟨w.heap.size + 1 + 1, 5, none⟩) (by simp; omega) _)
    generalize ((((((W.setCell ⟨w.heap.size + 1 + 1, 0, none⟩ (.int .i64 u0)).setCell ⟨w.heap.size + 1 + 1, 1, none⟩ (.int .i64 u1)).setCell ⟨w.heap.size + 1 + 1, 2, none⟩ (.int .i64 u2)).setCell ⟨w.heap.size + 1 + 1, 3, none⟩ (.int .i64 u3)).setCell ⟨w.heap.size + 1 + 1, 4, none⟩ (.int .i64 u4)).setCell ⟨w.heap.size + 1 + 1, 5, none⟩ (.int .i64 u5)) = W2 at hJ hO hBw ⊢
    have hK' := hO.same D _ hK rfl
    refine ⟨by simp, .inl ⟨_, _, rfl, run_takeDeferred hK', ?_⟩⟩
    have e0 := cell_kept (hJ.cell 0) (grownBy_putObj' _ D (.deferred none)) (fun r e => by cases e; exact ⟨_, hK', rfl⟩)
    have e1 := cell_kept (hJ.cell 1) (grownBy_putObj' _ D (.deferred none)) (fun r e => by cases e; exact ⟨_, hK', rfl⟩)
    have e2 := cell_kept (hJ.cell 2) (grownBy_putObj' _ D (.deferred none)) (fun r e => by cases e; exact ⟨_, hK', rfl⟩)
    have e3 := cell_kept (hJ.cell 3) (grownBy_putObj' _ D (.deferred none)) (fun r e => by cases e; exact ⟨_, hK', rfl⟩)
    have e4 := cell_kept (hJ.cell 4) (grownBy_putObj' _ D (.deferred none)) (fun r e => by cases e; exact ⟨_, hK', rfl⟩)
    have e5 := cell_kept (hJ.cell 5) (grownBy_putObj' _ D (.deferred none)) (fun r e => by cases e; exact ⟨_, hK', rfl⟩)
    refine ⟨sealedV u0 u1 u2 u3 u4 u5, ?_, by rw [HU0.out, HU1.out, HU2.out, HU3.out, HU4.out, HU5.out], hBw.trans (belowK_b (w := w) (Nat.le_refl _) _ D _ _ (by omega) hK' rfl rfl)⟩
    simp [results, Try.f41, go_sem, e0, e1, e2, e3, e4, e5]
  case stop =>
    rintro D c pre W _ _ h _
    exact h.elim
end Go.Proofs.Ytbmeljkdemdloaa
