/- tariff.extra: from the last tier on, the first one that is reached. -/
import Derived.Test.YticaeecfhfjjeaaTarExtra
namespace Go.Proofs.Yticaeecfhfjjeaa
open Go.RowKit Go.Shelf
set_option linter.unusedVariables false
attribute [local go_sem] Oper.semAt_some

theorem blk_own {β : Type} {B b : Nat} {t : TypeId} (c : β → Array Value) : OwnFrom B (fun (s : β) W => Blk W b (c s) t) := by
  intro s X Y row h hg hr
  refine (hg.block b h.lt ?_).trans h
  intro e
  obtain ⟨_, o, ho, hc⟩ := hr b e.symm
  rw [show X.heap[b]? = _ from h] at ho; cases ho; cases hc

/-- all that have come are above the crowd -/
def above (crowd : Int) (l : List It) : Prop := ∀ t ∈ l, crowd < t.2.1
theorem above_all {crowd : Int} {ts : List Tr} (h : above crowd (revT ts)) : extraF crowd ts = 0 := by
  refine extraF_none crowd ts fun t ht => ?_
  have : t ∈ (revT ts).map (·.2) := by rw [revT_rev]; simpa using ht
  obtain ⟨x, hx, rfl⟩ := List.mem_map.1 this
  exact h x hx
theorem above_stop {crowd : Int} {ts : List Tr} {pre : List It} {x : It} (hp : (pre ++ [x]) <+: revT ts) (h : above crowd pre) (hx : x.2.1 ≤ crowd) : extraF crowd ts = x.2.2 := by
  obtain ⟨r, hr⟩ := hp
  have h1 : ts.reverse = pre.map (·.2) ++ x.2 :: r.map (·.2) := by rw [← revT_rev, ← hr]; simp
  have h2 : ts = (r.map (·.2)).reverse ++ x.2 :: (pre.map (·.2)).reverse := by
    rw [← List.reverse_reverse ts, h1]; simp
  rw [h2]
  refine extraF_last crowd _ _ _ hx fun u hu => ?_
  simp at hu
  obtain ⟨a, ha⟩ := hu
  exact h _ ha

set_option maxRecDepth 100000 in
set_option maxHeartbeats 2000000 in
theorem extra_in (pb : Option Addr) (nb cb : Nat) (pl : Option Addr) (nl cl : Nat) (pt : Option Addr) (nt ct : Nat) (crowd : Int) (ts : List Tr) (w : World) (hz : Hid (TiersV w pt nt ts)) :
    CallsIn Fence.wide 5 Try.prog 27 #[tarV pb nb cb pl nl cl pt nt ct, .int .i64 crowd] w
      fun e w' => e = .returned (.int .i64 (extraF crowd ts)) ∧ Below w.heap.size w w' := by
  refine callsIn_of_wp_marks Try.func27 rfl trivial ?_ rfl
  simp only [Try.ntmps27, List.size_toArray, List.length_cons, List.length_nil, Nat.reduceAdd, Nat.reduceSub, Array.replicate_succ, Array.replicate_zero, List.push_toArray, List.append_toArray, List.nil_append, List.cons_append]
  gi_wp2
  refine ⟨trivial, ?_⟩
  refine (callsIn_wide.2 (backward_any pt nt ct (w.heap.size + 1 + 1 + 1) _ (by simp))).mono ?_; rintro e w' ⟨rfl, rfl⟩
  gi_wp2
  obtain ⟨W1, hW1⟩ : ∃ W1, (((w.alloc (.cells #[.slice pb nb cb, .slice pl nl cl, .slice pt nt ct] 25)).alloc (.cells #[.int .i64 crowd] 3)).alloc (.cells #[.int .i64 0] 3)).alloc (.cells #[.slice pt nt ct] 23) = W1 := ⟨_, rfl⟩
  have hB0 : Below w.heap.size w W1 := by
    rw [← hW1]; exact (((bel_alloc1 _ _).alloc (by simp) _).alloc (by simp; omega) _).alloc (by simp; omega) _
  have hsz : W1.heap.size = w.heap.size + 4 := by rw [← hW1]; simp
  have hB : Blks W1 [(w.heap.size + 1 + 1 + 1, #[.slice pt nt ct], 23), (w.heap.size + 1 + 1, #[.int .i64 0], 3), (w.heap.size + 1, #[.int .i64 crowd], 3), (w.heap.size, #[.slice pb nb cb, .slice pl nl cl, .slice pt nt ct], 25)] := by
    rw [← hW1]; have h := ((((Blks.nil w).box #[.slice pb nb cb, .slice pl nl cl, .slice pt nt ct] 25).box #[.int .i64 crowd] 3).box #[.int .i64 0] 3).box #[.slice pt nt ct] 23
    simp only [World.size_alloc] at h; exact h
  rw [hW1]
  clear hW1
  refine wpIn_rangeFunc_ownH rfl (by omega) (gf := 38) (lb := #[.pointer (some ⟨w.heap.size + 1 + 1 + 1, 0, none⟩)]) rfl trivial (enters_of Try.func38 (by kernel_rfl) rfl)
    (backward_stops pt nt ct ts 4 (by omega) (w.heap.size + 1 + 1 + 1) W1 (by omega) (hB.1.cell 0) (Lib.hid (hz.out.below hB0))) belowK_t (belowK_b (Nat.le_refl _)) (Below.refl _ _) (fun _ => rfl)
    (fun pre W => (((above crowd pre ∧ Blk W (w.heap.size + 1 + 1) #[.int .i64 0] 3) ∧ Blk W (w.heap.size + 1) #[.int .i64 crowd] 3) ∧ W1.heap.size ≤ W.heap.size) ∧ Below w.heap.size w W)
    (fun c pre W => (c = .ret ∧ ∃ v, (∀ ts', pre <+: revT ts' → extraF crowd ts' = v) ∧ Blk W (w.heap.size + 1 + 1) #[.int .i64 v] 3) ∧ Below w.heap.size w W)
    (OwnFrom.and (OwnFrom.and (OwnFrom.and (fun s X Y row h hg hr => ⟨h.1, blk_own (β := List It) (B := W1.heap.size) (fun _ => #[.int .i64 0]) s X Y row h.2 hg hr⟩) (fun s X Y row h hg hr => blk_own (β := List It) (B := W1.heap.size) (fun _ => #[.int .i64 crowd]) s X Y row h hg hr)) (fun s X Y row h hg hr => Nat.le_trans h hg.size)) (ownFrom_below (Nat.le_refl _) (by omega)))
    (fun c => OwnFrom.and (fun s X Y row h hg hr => by
      obtain ⟨h1, v, h2, h3⟩ := h
      exact ⟨h1, v, h2, blk_own (β := List It) (B := W1.heap.size) (fun _ => #[.int .i64 v]) s X Y row h3 hg hr⟩) (ownFrom_below (Nat.le_refl _) (by omega)))
    ⟨⟨⟨⟨fun t ht => by simp at ht, hB.2.1⟩, hB.2.2.1⟩, Nat.le_refl _⟩, hB0⟩
    (fun x a' W => ∃ Bc, w.heap.size + 1 + 1 < Bc ∧ Blk W Bc #[.int .i64 x.2.1, .int .i64 x.2.2] 38 ∧ a' = { tmps := #[tarV pb nb cb pl nl cl pt nt ct, .int .i64 crowd, .pointer (some ⟨w.heap.size, 0, none⟩), .pointer (some ⟨w.heap.size + 1, 0, none⟩), .pointer (some ⟨w.heap.size + 1 + 1, 0, none⟩), undef, .pointer (some ⟨Bc, 0, none⟩), .pointer (some ⟨w.heap.size, 2, none⟩), .slice pt nt ct, .func (.func 38) #[] #[.pointer (some ⟨w.heap.size + 1 + 1 + 1, 0, none⟩)], .int .i64 x.1, .agg #[.int .i64 x.2.1, .int .i64 x.2.2], undef, undef, undef, undef, undef, undef], defers := [] })
    (fun x a' s X Y row h hg hr => by
      obtain ⟨Bc, h1, h2, h3⟩ := h
      exact ⟨Bc, h1, (blk_own (β := Unit) (B := W1.heap.size) fun _ => _) s X Y row h2 hg hr, h3⟩) ?assign ?body ?done ?stop
  case assign =>
    rintro l pre x W K ⟨⟨⟨⟨j1, j2⟩, j3⟩, j4⟩, hB⟩ hK
    gi_wp2
    exact hK _ _ ((KeepsOthers.alloc _ _).from _) ((Below.refl _ _).alloc j4 _) ⟨⟨⟨⟨j1, j2.alloc _⟩, j3.alloc _⟩, Nat.le_trans j4 (by simp)⟩, hB.alloc hB.size _⟩ ⟨W.heap.size, j2.lt, Blk.new _ _ _, rfl⟩
  case body =>
    rintro l pre ⟨i, f, x⟩ a' W hl hr ⟨⟨⟨⟨j1, j2⟩, j3⟩, j4⟩, hB⟩ ⟨Bc, hBc, jc, rfl⟩ hlt
    have c0 := jc.cell 0
    have c1 := jc.cell 1
    have q0 := j2.cell 0
    have q1 := j2.frozen 0
    have r0 := j3.cell 0
    simp at c0 c1 q0 r0
    have J1 := Lib.hid j1; have J2 := Lib.hid j2; have J3 := Lib.hid j3; have J4 := Lib.hid j4; have HB := Lib.hid hB
    clear j1 j2 j3 j4 jc hB hl hr hlt
    by_cases hf : f ≤ crowd
    · gi_wp2
      exact ⟨(KeepsOthers.setCell _ _ _).from _, ⟨rfl, x, fun ts' hp => above_stop (x := (i, f, x)) hp J1.out hf, J2.out.set 0 _⟩, HB.out.setCell (p := ⟨w.heap.size + 1 + 1, 0, none⟩) (by show w.heap.size ≤ w.heap.size + 1 + 1; omega) _⟩
    · gi_wp2
      exact ⟨(KeepsOthers.refl _).from _, Below.refl _ _, ⟨⟨⟨fun t ht => by
        rcases List.mem_append.1 ht with h | h
        · exact J1.out t h
        · obtain rfl : t = (i, f, x) := by simpa using h
          show crowd < f; omega, J2.out⟩, J3.out⟩, (by have := J4.out; omega)⟩, HB.out⟩
  case done =>
    rintro D ys W hD rfl ⟨⟨⟨⟨j1, j2⟩, j3⟩, j4⟩, hB⟩ hK
    have HE : Hid (extraF crowd ts = 0) := Lib.hid (above_all j1)
    have J2 := Lib.hid j2
    have c0 := j2.cell 0
    have d0 := j2.frozen 0
    simp at c0
    clear j1 j2 j3
    gi_wp2
    have hJ := J2.out.set 0 (.int .i64 0)
    have hO := KeepsOthers.setCell W ⟨w.heap.size + 1 + 1, 0, none⟩ (.int .i64 0)
    have hBw := hB.setCell (p := ⟨w.heap.size + 1 + 1, 0, none⟩) (by show w.heap.size ≤ w.heap.size + 1 + 1; omega) (.int .i64 0)
    generalize W.setCell ⟨w.heap.size + 1 + 1, 0, none⟩ (.int .i64 0) = W2 at hJ hO hBw ⊢
    have hK' := hO.same D _ hK rfl
    refine ⟨by simp, .inl ⟨_, _, rfl, run_takeDeferred hK', ?_⟩⟩
    have e0 := cell_kept (hJ.cell 0) (grownBy_putObj' _ D (.deferred none)) (fun r e => by cases e; exact ⟨_, hK', rfl⟩)
    refine ⟨.int .i64 0, ?_, by rw [HE.out], hBw.trans (belowK_b (w := w) (Nat.le_refl _) _ D _ _ (by omega) hK' rfl rfl)⟩
    simp [results, Try.f27, go_sem, e0]
  case stop =>
    rintro D c pre W hD hpre ⟨⟨rfl, v, hv, j2⟩, hB⟩ hK
    have HE : Hid (extraF crowd ts = v) := Lib.hid (hv ts hpre)
    clear hv
    gi_wp2
    refine ⟨by simp, .inl ⟨_, _, rfl, run_takeDeferred hK, ?_⟩⟩
    have e0 := cell_kept (j2.cell 0) (grownBy_putObj' _ D (.deferred none)) (fun r e => by cases e; exact ⟨_, hK, rfl⟩)
    refine ⟨.int .i64 v, ?_, by rw [HE.out], hB.trans (belowK_b (w := w) (Nat.le_refl _) _ D _ _ (by omega) hK rfl rfl)⟩
    simp [results, Try.f27, go_sem, e0]

theorem extra_any (pb : Option Addr) (nb cb : Nat) (pl : Option Addr) (nl cl : Nat) (pt : Option Addr) (nt ct : Nat) (crowd : Int) (ts : List Tr) (w : World) (hz : Hid (TiersV w pt nt ts)) :
    Calls Try.prog 27 #[tarV pb nb cb pl nl cl pt nt ct, .int .i64 crowd] w fun e w' => e = .returned (.int .i64 (extraF crowd ts)) ∧ Below w.heap.size w w' :=
  callsIn_wide.1 (extra_in pb nb cb pl nl cl pt nt ct crowd ts w hz)
end Go.Proofs.Yticaeecfhfjjeaa
