/- Package elgamal: Check, for all letters. -/
import Derived.Test.YtbmeljkdemdloaaElgFn
namespace Go.Proofs.Ytbmeljkdemdloaa
open Go.RowKit Go.Shelf
set_option linter.unusedVariables false
attribute [local go_sem] Oper.semAt_some

def okC (x : Cip) : Bool := elB x.2.1 && elB x.2.2
def six (a0 b0 a1 b1 a2 b2 : Int) : List Cip := [(0, a0, b0), (1, a1, b1), (2, a2, b2)]
def chkB (a0 b0 a1 b1 a2 b2 : Int) : Bool := (six a0 b0 a1 b1 a2 b2).all okC
def chkE (a0 b0 a1 b1 a2 b2 : Int) : Int := if chkB a0 b0 a1 b1 a2 b2 then 0 else 100

theorem all_prefix {p : Cip → Bool} {l r : List Cip} (h : l <+: r) (hl : l.all p = false) : r.all p = false := by
  obtain ⟨t, rfl⟩ := h
  rw [List.all_append, hl]; rfl

set_option maxRecDepth 100000 in
set_option maxHeartbeats 2000000 in
theorem check_in (a0 b0 a1 b1 a2 b2 : Int) (w : World) :
    CallsIn Fence.wide 5 Try.prog 24 #[sealedV a0 b0 a1 b1 a2 b2] w
      fun e w' => e = .returned (.int .i64 (chkE a0 b0 a1 b1 a2 b2)) ∧ Below w.heap.size w w' := by
  refine callsIn_of_wp_marks Try.func24 rfl trivial ?_ rfl
  simp only [Try.ntmps24, List.size_toArray, List.length_cons, List.length_nil, Nat.reduceAdd, Nat.reduceSub, Array.replicate_succ, Array.replicate_zero, List.push_toArray, List.append_toArray, List.nil_append, List.cons_append]
  gi_wp2
  refine ⟨trivial, ?_⟩
  refine (callsIn_wide.2 (ciphers_any _ _ _ _ _ _ (w.heap.size + 1 + 1) _ (by simp))).mono ?_; rintro e w' ⟨rfl, rfl⟩
  gi_wp2
  obtain ⟨W1, hW1⟩ : ∃ W1, ((w.alloc (.cells #[.int .i64 a0, .int .i64 b0, .int .i64 a1, .int .i64 b1, .int .i64 a2, .int .i64 b2] 34)).alloc (.cells #[.int .i64 0] 24)).alloc (.cells #[.int .i64 a0, .int .i64 b0, .int .i64 a1, .int .i64 b1, .int .i64 a2, .int .i64 b2] 34) = W1 := ⟨_, rfl⟩
  have hB0 : Below w.heap.size w W1 := by
    rw [← hW1]; exact ((bel_alloc1 _ _).alloc (by simp) _).alloc (by simp; omega) _
  have hsz : W1.heap.size = w.heap.size + 3 := by rw [← hW1]; simp
  have k1 : Blk W1 (w.heap.size + 1) #[.int .i64 0] 24 := by
    rw [← hW1]; have h := Blk.new (w.alloc (.cells #[.int .i64 a0, .int .i64 b0, .int .i64 a1, .int .i64 b1, .int .i64 a2, .int .i64 b2] 34)) #[.int .i64 0] 24
    rw [World.size_alloc] at h; exact h.alloc _
  have k3 : SixAt W1 (w.heap.size + 1 + 1) a0 b0 a1 b1 a2 b2 := by
    rw [← hW1]; have h := sixAt_new ((w.alloc (.cells #[.int .i64 a0, .int .i64 b0, .int .i64 a1, .int .i64 b1, .int .i64 a2, .int .i64 b2] 34)).alloc (.cells #[.int .i64 0] 24)) 34 a0 b0 a1 b1 a2 b2
    rw [World.size_alloc, World.size_alloc] at h; exact h
  rw [hW1]
  clear hW1
  refine wpIn_rangeFunc_ownH rfl (by omega) (gf := 58) (lb := #[.pointer (some ⟨w.heap.size + 1 + 1, 0, none⟩)]) rfl trivial (enters_of Try.func58 (by kernel_rfl) rfl)
    (ciphers_stops a0 b0 a1 b1 a2 b2 4 (by omega) (w.heap.size + 1 + 1) W1 (by omega) k3) walksK_t walksK_b (Below.refl _ _) (fun _ => rfl)
    (fun pre W => (pre.all okC = true ∧ Blk W (w.heap.size + 1) #[.int .i64 0] 24) ∧ Below w.heap.size w W)
    (fun c pre W => (c = .ret ∧ pre.all okC = false ∧ Blk W (w.heap.size + 1) #[.int .i64 100] 24) ∧ Below w.heap.size w W)
    (OwnFrom.and (fun s X Y row h hg hr => ⟨h.1, blk_own (β := List Cip) (B := W1.heap.size) (fun _ => #[.int .i64 0]) s X Y row h.2 hg hr⟩) (ownFrom_below (Nat.le_refl _) (by omega)))
    (fun c => OwnFrom.and (fun s X Y row h hg hr => ⟨h.1, h.2.1, blk_own (β := List Cip) (B := W1.heap.size) (fun _ => #[.int .i64 100]) s X Y row h.2.2 hg hr⟩) (ownFrom_below (Nat.le_refl _) (by omega)))
    ⟨⟨rfl, k1⟩, hB0⟩
    (fun x a' W => ∃ Bc, w.heap.size + 1 < Bc ∧ Blk W Bc #[.int .i64 x.2.1, .int .i64 x.2.2] 32 ∧ a' = { tmps := #[sealedV a0 b0 a1 b1 a2 b2, .pointer (some ⟨w.heap.size, 0, none⟩), .pointer (some ⟨w.heap.size + 1, 0, none⟩), undef, .pointer (some ⟨Bc, 0, none⟩), sealedV a0 b0 a1 b1 a2 b2, .func (.func 58) #[] #[.pointer (some ⟨w.heap.size + 1 + 1, 0, none⟩)], .int .i64 (x.1.val : Int), .agg #[.int .i64 x.2.1, .int .i64 x.2.2], undef, undef, undef, undef, undef, undef, undef, undef, undef, undef], defers := [] })
    (fun x a' s X Y row h hg hr => by
      obtain ⟨Bc, h1, h2, h3⟩ := h
      exact ⟨Bc, h1, (blk_own (β := Unit) (B := W1.heap.size) fun _ => _) s X Y row h2 hg hr, h3⟩) ?assign ?body ?done ?stop
  case assign =>
    rintro l pre x W K ⟨⟨j1, j2⟩, hB⟩ hK
    gi_wp2
    exact hK _ _ ((KeepsOthers.alloc _ _).from _) (KeepsWalks.alloc _ _) ⟨⟨j1, j2.alloc _⟩, hB.alloc hB.size _⟩ ⟨W.heap.size, j2.lt, Blk.new _ _ _, rfl⟩
  case body =>
    rintro l pre ⟨i, A, B⟩ a' W hl hr ⟨⟨j1, j2⟩, hB⟩ ⟨Bc, hBc, jc, rfl⟩ hlt
    have c0 := jc.cell 0
    have c1 := jc.cell 1
    have q0 := j2.cell 0
    have q1 := j2.frozen 0
    simp at c0 c1 q0
    have hsn : (pre ++ [(i, A, B)]).all okC = (elB A && elB B) := by rw [List.all_append, j1]; simp [okC]
    have HSN := Lib.hid hsn
    have J1 := Lib.hid j1; have J2 := Lib.hid j2; have HB := Lib.hid hB
    clear j1 j2 jc hB hl hr hlt hsn
    cases hA : elB A with
    | false =>
      have HA := Lib.hid hA
      clear hA
      gi_wp2
      refine ⟨trivial, ?_⟩
      refine (CallsIn.inRound l (callsIn_wide.2 (val_c A false _ HA.out))).mono ?_; rintro e w' ⟨rfl, rfl⟩
      gi_wp2
      refine ⟨trivial, ?_⟩
      gi_wp2
      exact ⟨(KeepsOthers.setCell _ _ _).from _, ⟨rfl, by rw [HSN.out, HA.out]; rfl, J2.out.set 0 _⟩, HB.out.setCell (p := ⟨w.heap.size + 1, 0, none⟩) (by simp) _⟩
    | true =>
      have HA := Lib.hid hA
      clear hA
      cases hV : elB B with
      | false =>
        have HV := Lib.hid hV
        clear hV
        gi_wp2
        refine ⟨trivial, ?_⟩
        refine (CallsIn.inRound l (callsIn_wide.2 (val_c A true _ HA.out))).mono ?_; rintro e w' ⟨rfl, rfl⟩
        gi_wp2
        refine ⟨trivial, ?_⟩
        refine (CallsIn.inRound l (callsIn_wide.2 (val_c B false _ HV.out))).mono ?_; rintro e w' ⟨rfl, rfl⟩
        gi_wp2
        exact ⟨(KeepsOthers.setCell _ _ _).from _, ⟨rfl, by rw [HSN.out, HA.out, HV.out]; rfl, J2.out.set 0 _⟩, HB.out.setCell (p := ⟨w.heap.size + 1, 0, none⟩) (by simp) _⟩
      | true =>
        have HV := Lib.hid hV
        clear hV
        gi_wp2
        refine ⟨trivial, ?_⟩
        refine (CallsIn.inRound l (callsIn_wide.2 (val_c A true _ HA.out))).mono ?_; rintro e w' ⟨rfl, rfl⟩
        gi_wp2
        refine ⟨trivial, ?_⟩
        refine (CallsIn.inRound l (callsIn_wide.2 (val_c B true _ HV.out))).mono ?_; rintro e w' ⟨rfl, rfl⟩
        gi_wp2
        exact ⟨(KeepsOthers.refl _).from _, KeepsWalks.refl _, ⟨by rw [HSN.out, HA.out, HV.out]; rfl, J2.out⟩, HB.out⟩
  case done =>
    rintro D ys W hD rfl ⟨⟨j1, j2⟩, hB⟩ hK
    have HE : Hid (chkE a0 b0 a1 b1 a2 b2 = 0) := Lib.hid (by unfold chkE chkB six; rw [j1]; rfl)
    have J2 := Lib.hid j2
    have c0 := j2.cell 0
    have d0 := j2.frozen 0
    simp at c0
    clear j1 j2
    gi_wp2
    have hJ := J2.out.set 0 (.int .i64 0)
    have hO := KeepsOthers.setCell W ⟨w.heap.size + 1, 0, none⟩ (.int .i64 0)
    have hBw := hB.setCell (p := ⟨w.heap.size + 1, 0, none⟩) (by simp) (.int .i64 0)
    generalize W.setCell ⟨w.heap.size + 1, 0, none⟩ (.int .i64 0) = W2 at hJ hO hBw ⊢
    have hK' := hO.same D _ hK rfl
    refine ⟨by simp, .inl ⟨_, _, rfl, run_takeDeferred hK', ?_⟩⟩
    have e0 := cell_kept (hJ.cell 0) (grownBy_putObj' _ D (.deferred none)) (fun r e => by cases e; exact ⟨_, hK', rfl⟩)
    refine ⟨.int .i64 0, ?_, by rw [HE.out], hBw.trans (belowK_b (w := w) (Nat.le_refl _) _ D _ _ (by omega) hK' rfl rfl)⟩
    simp [results, Try.f24, go_sem, e0]
  case stop =>
    rintro D c pre W hD hpre ⟨⟨rfl, j1, j2⟩, hB⟩ hK
    have HE : Hid (chkE a0 b0 a1 b1 a2 b2 = 100) := Lib.hid (by unfold chkE chkB six; rw [all_prefix hpre j1]; rfl)
    clear j1
    gi_wp2
    refine ⟨by simp, .inl ⟨_, _, rfl, run_takeDeferred hK, ?_⟩⟩
    have e0 := cell_kept (j2.cell 0) (grownBy_putObj' _ D (.deferred none)) (fun r e => by cases e; exact ⟨_, hK, rfl⟩)
    refine ⟨.int .i64 100, ?_, by rw [HE.out], hB.trans (belowK_b (w := w) (Nat.le_refl _) _ D _ _ (by omega) hK rfl rfl)⟩
    simp [results, Try.f24, go_sem, e0]

theorem check_any (a0 b0 a1 b1 a2 b2 : Int) (w : World) :
    Calls Try.prog 24 #[sealedV a0 b0 a1 b1 a2 b2] w
      fun e w' => e = .returned (.int .i64 (chkE a0 b0 a1 b1 a2 b2)) ∧ Below w.heap.size w w' := callsIn_wide.1 (check_in a0 b0 a1 b1 a2 b2 w)
end Go.Proofs.Ytbmeljkdemdloaa
