/- Package elgamal: Check, Public, Join, Strip. -/
import Derived.Deep.RegionHeld3
import Derived.Test.YtpjobllfiimdkaaGreatDoorElgZC
import Derived.Test.YtpjobllfiimdkaaGreatDoorGroupNu
namespace Go.Proofs.YtpjobllfiimdkaaGreatDoor
open Go.RowKit
set_option linter.unusedVariables false

set_option maxRecDepth 100000 in
set_option maxHeartbeats 1000000 in
theorem strip1_any (i : Int) (bk : Nat) (A B k : Int) (w : World) (hk : w.cell? ⟨bk, 0, none⟩ = some (.int .i64 k)) (hbk : bk < w.heap.size) (k0 : 1 ≤ k) (k1 : k < 1073741789) :
    Calls Tryz.prog 32 #[.int .i64 i, .agg #[.int .i64 A, .int .i64 B], .pointer (some ⟨bk, 0, none⟩)] w
      fun e w' => e = .returned (.agg #[.int .i64 A, .int .i64 (mulZ B (powZ A (-k)))]) ∧ Below w.heap.size w w' := by
  have HN : Hid (IntKind.i64.wrap (-k) = -k) := Lib.hid (IntWalk.i64_in _ (by omega))
  go_enter Tryz.func32, Tryz.ntmps32
  go_wp2
  obtain ⟨W, hW⟩ : ∃ W, (w.alloc (.cells #[.int .i64 A, .int .i64 B] 25)).alloc (.cells #[.int .i64 0, .int .i64 0] 25) = W := ⟨_, rfl⟩
  have hB : Below w.heap.size w W := by rw [← hW]; exact (bel_alloc1 _ _).alloc (by simp) _
  have hz : W.heap.size = w.heap.size + 2 := by rw [← hW]; simp
  have c1 : W.cell? ⟨w.heap.size, 0, none⟩ = some (.int .i64 A) := by rw [← hW]; simp
  have c2 : W.cell? ⟨w.heap.size, 1, none⟩ = some (.int .i64 B) := by rw [← hW]; simp
  have hres : Res W (w.heap.size + 1) (w.heap.size + 1) W := by rw [← hW]; exact ⟨Below.refl _ _, Nat.le_refl _, ⟨_, by simp; rfl⟩, ⟨_, by simp; rfl⟩, by simp, by simp⟩
  have c4 : W.cell? ⟨bk, 0, none⟩ = some (.int .i64 k) := (hB.cell (p := ⟨bk, 0, none⟩) hbk).trans hk
  have HALL : Hid (∀ w' : World, Res W (w.heap.size + 1) (w.heap.size + 1) w' → (Res W (w.heap.size + 1) (w.heap.size + 1) w' ∧ w'.cell? ⟨w.heap.size, 0, none⟩ = some (.int .i64 A) ∧ w'.cell? ⟨w.heap.size, 1, none⟩ = some (.int .i64 B) ∧ w'.cell? ⟨bk, 0, none⟩ = some (.int .i64 k) ∧ w'.cell? ⟨w.heap.size + 1, 0, none⟩ = some (rc w' ⟨w.heap.size + 1, 0, none⟩) ∧ w'.cell? ⟨w.heap.size + 1, 1, none⟩ = some (rc w' ⟨w.heap.size + 1, 1, none⟩) ∧ w'.frozen? ⟨w.heap.size + 1, 0, none⟩ = false ∧ w'.frozen? ⟨w.heap.size + 1, 1, none⟩ = false)) :=
    Lib.hid fun w' h => ⟨h, (h.1.cell (p := ⟨w.heap.size, 0, none⟩) (by simp)).trans c1, (h.1.cell (p := ⟨w.heap.size, 1, none⟩) (by simp)).trans c2, (h.1.cell (p := ⟨bk, 0, none⟩) (by simp; omega)).trans c4, rc_some h.2.2.1, rc_some h.2.2.2.1, h.2.2.2.2.1, h.2.2.2.2.2⟩
  have HZ1 : Hid (w.heap.size + 1 ≤ W.heap.size) := Lib.hid (by omega)
  have HZ2 : Hid (w.heap.size + 1 < W.heap.size) := Lib.hid (by omega)
  have HBW := Lib.hid hB
  have HR := Lib.hid hres
  rw [hW]
  clear hW hz hB c1 c2 c4 hk hres
  go_region_held3 (fun w' => (Res W (w.heap.size + 1) (w.heap.size + 1) w' ∧ w'.cell? ⟨w.heap.size, 0, none⟩ = some (.int .i64 A) ∧ w'.cell? ⟨w.heap.size, 1, none⟩ = some (.int .i64 B) ∧ w'.cell? ⟨bk, 0, none⟩ = some (.int .i64 k) ∧ w'.cell? ⟨w.heap.size + 1, 0, none⟩ = some (rc w' ⟨w.heap.size + 1, 0, none⟩) ∧ w'.cell? ⟨w.heap.size + 1, 1, none⟩ = some (rc w' ⟨w.heap.size + 1, 1, none⟩) ∧ w'.frozen? ⟨w.heap.size + 1, 0, none⟩ = false ∧ w'.frozen? ⟨w.heap.size + 1, 1, none⟩ = false))
    (first | (exact HALL.out _ HR.out.drew) | (exact HALL.out _ (Res.call (And.left (by assumption)) HZ1.out HZ2.out (by assumption))) | (exact HALL.out _ (Res.store (And.left (by assumption)) (Nat.le_refl _) _ _)))
    (first | (go_at_call 34; refine (epow_any _ _ _).mono ?_; rintro e w1 ⟨rfl, hb⟩) | (go_at_call 33; refine (emul_any _ _ _).mono ?_; rintro e w1 ⟨rfl, hb⟩))
  go_wp2
  refine bodyPost_ret (v := .agg #[.int .i64 A, .int .i64 (mulZ B (powZ A (-k)))]) ?_ rfl ⟨rfl, ?_⟩
  · simp [results, Tryz.f32, go_sem, *]
    have e := Res.val (And.left (by assumption))
    rw [HN.out] at e
    rw [HN.out]
    exact e
  · refine HBW.out.trans (Below.mono (And.left (And.left (b := _ ∧ _) (by assumption) : Res W (w.heap.size + 1) (w.heap.size + 1) _)) (by simp))

end Go.Proofs.YtpjobllfiimdkaaGreatDoor
namespace Go.Proofs.YtpjobllfiimdkaaGreatDoor
open Go.RowKit Go.Shelf
set_option linter.unusedVariables false

def gStrip (s : Int) (_ : Nat) (c : Int × Int) : Int × Int := (c.1, mulZ c.2 (powZ c.1 (-s)))

theorem enters47 : ∀ args W, (callFunc 32 args).run Tryz.prog W = .ok (.enter 32 args) W := enters_of Tryz.func32 (by kernel_rfl) rfl

theorem strip_ch {w : World} {b : Nat} {s : Int} (hb0 : b < w.heap.size) (hc : w.cell? ⟨b, 0, none⟩ = some (.int .i64 s)) (s0 : 1 ≤ s) (s1 : s < 1073741789) : ∀ (i : Nat) (A B : Int) (W : World), i < 3 → Below w.heap.size w W → Calls Tryz.prog 32 (#[.int .i64 i, .agg #[.int .i64 A, .int .i64 B]] ++ #[.pointer (some ⟨b, 0, none⟩)]) W fun e W' => e = .returned (.agg #[.int .i64 (gStrip s i (A, B)).1, .int .i64 (gStrip s i (A, B)).2]) ∧ Below W.heap.size W W' := by
  intro i A B W hi hb
  exact strip1_any i b A B s W ((hb.cell (p := ⟨b, 0, none⟩) hb0).trans hc) (Nat.lt_of_lt_of_le hb0 hb.size) s0 s1

theorem strip_chs {w : World} {b : Nat} {s : Int} (hb : b < w.heap.size) (hc : w.cell? ⟨b, 0, none⟩ = some (.int .i64 s)) (s0 : 1 ≤ s) (s1 : s < 1073741789) :
    Chs (w.alloc (.cells #[.func (.func 32) #[] #[.pointer (some ⟨b, 0, none⟩)]] 91)) w.heap.size 1
      (fun _ => 32) (fun _ => #[.pointer (some ⟨b, 0, none⟩)]) (fun _ => gStrip s) :=
  chs_one (by simp) enters47 (strip_ch (by simp; omega) (((bel_alloc1 w _).cell (p := ⟨b, 0, none⟩) hb).trans hc) s0 s1)
end Go.Proofs.YtpjobllfiimdkaaGreatDoor
namespace Go.Proofs.YtpjobllfiimdkaaGreatDoor
open Go.RowKit Go.Shelf
set_option linter.unusedVariables false
attribute [local go_sem] Oper.semAt_some

def okC (x : Cip) : Bool := elB x.2.1 && elB x.2.2
def six (a0 b0 a1 b1 a2 b2 : Int) : List Cip := [(0, a0, b0), (1, a1, b1), (2, a2, b2)]
def chkB (a0 b0 a1 b1 a2 b2 : Int) : Bool := (six a0 b0 a1 b1 a2 b2).all okC
def chkE (a0 b0 a1 b1 a2 b2 : Int) : Int := if chkB a0 b0 a1 b1 a2 b2 then 0 else 100

theorem all_prefix {p : Cip → Bool} {l r : List Cip} (h : l <+: r) (hl : l.all p = false) : r.all p = false := by
  obtain ⟨t, rfl⟩ := h
  rw [List.all_append, hl]; rfl

set_option maxRecDepth 100000 in
set_option maxHeartbeats 2000000 in
theorem check_in (a0 b0 a1 b1 a2 b2 : Int) (w : World) :
    CallsIn Fence.wide 5 Tryz.prog 30 #[sealedV a0 b0 a1 b1 a2 b2] w
      fun e w' => e = .returned (.int .i64 (chkE a0 b0 a1 b1 a2 b2)) ∧ Below w.heap.size w w' := by
  refine callsIn_of_wp_marks Tryz.func30 rfl trivial ?_ rfl
  simp only [Tryz.ntmps30, List.size_toArray, List.length_cons, List.length_nil, Nat.reduceAdd, Nat.reduceSub, Array.replicate_succ, Array.replicate_zero, List.push_toArray, List.append_toArray, List.nil_append, List.cons_append]
  gi_wp2
  refine ⟨trivial, ?_⟩
  refine (callsIn_wide.2 (ciphers_any _ _ _ _ _ _ (w.heap.size + 1 + 1) _ (by simp))).mono ?_; rintro e w' ⟨rfl, rfl⟩
  gi_wp2
  obtain ⟨W1, hW1⟩ : ∃ W1, ((w.alloc (.cells #[.int .i64 a0, .int .i64 b0, .int .i64 a1, .int .i64 b1, .int .i64 a2, .int .i64 b2] 32)).alloc (.cells #[.int .i64 0] 33)).alloc (.cells #[.int .i64 a0, .int .i64 b0, .int .i64 a1, .int .i64 b1, .int .i64 a2, .int .i64 b2] 32) = W1 := ⟨_, rfl⟩
  have hB0 : Below w.heap.size w W1 := by
    rw [← hW1]; exact ((bel_alloc1 _ _).alloc (by simp) _).alloc (by simp; omega) _
  have hsz : W1.heap.size = w.heap.size + 3 := by rw [← hW1]; simp
  have k1 : Blk W1 (w.heap.size + 1) #[.int .i64 0] 33 := by
    rw [← hW1]; have h := Blk.new (w.alloc (.cells #[.int .i64 a0, .int .i64 b0, .int .i64 a1, .int .i64 b1, .int .i64 a2, .int .i64 b2] 32)) #[.int .i64 0] 33
    rw [World.size_alloc] at h; exact h.alloc _
  have k3 : SixAt W1 (w.heap.size + 1 + 1) a0 b0 a1 b1 a2 b2 := by
    rw [← hW1]; have h := sixAt_new ((w.alloc (.cells #[.int .i64 a0, .int .i64 b0, .int .i64 a1, .int .i64 b1, .int .i64 a2, .int .i64 b2] 32)).alloc (.cells #[.int .i64 0] 33)) 32 a0 b0 a1 b1 a2 b2
    rw [World.size_alloc, World.size_alloc] at h; exact h
  rw [hW1]
  clear hW1
  refine wpIn_rangeFunc_ownH rfl (by omega) (gf := 69) (lb := #[.pointer (some ⟨w.heap.size + 1 + 1, 0, none⟩)]) rfl trivial (enters_of Tryz.func69 (by kernel_rfl) rfl)
    (ciphers_stops a0 b0 a1 b1 a2 b2 4 (by omega) (w.heap.size + 1 + 1) W1 (by omega) k3) walksK_t walksK_b (Below.refl _ _) (fun _ => rfl)
    (fun pre W => (pre.all okC = true ∧ Blk W (w.heap.size + 1) #[.int .i64 0] 33) ∧ Below w.heap.size w W)
    (fun c pre W => (c = .ret ∧ pre.all okC = false ∧ Blk W (w.heap.size + 1) #[.int .i64 100] 33) ∧ Below w.heap.size w W)
    (OwnFrom.and (fun s X Y row h hg hr => ⟨h.1, blk_own (β := List Cip) (B := W1.heap.size) (fun _ => #[.int .i64 0]) s X Y row h.2 hg hr⟩) (ownFrom_below (Nat.le_refl _) (by omega)))
    (fun c => OwnFrom.and (fun s X Y row h hg hr => ⟨h.1, h.2.1, blk_own (β := List Cip) (B := W1.heap.size) (fun _ => #[.int .i64 100]) s X Y row h.2.2 hg hr⟩) (ownFrom_below (Nat.le_refl _) (by omega)))
    ⟨⟨rfl, k1⟩, hB0⟩
    (fun x a' W => ∃ Bc, w.heap.size + 1 < Bc ∧ Blk W Bc #[.int .i64 x.2.1, .int .i64 x.2.2] 25 ∧ a' = { tmps := #[sealedV a0 b0 a1 b1 a2 b2, .pointer (some ⟨w.heap.size, 0, none⟩), .pointer (some ⟨w.heap.size + 1, 0, none⟩), undef, .pointer (some ⟨Bc, 0, none⟩), sealedV a0 b0 a1 b1 a2 b2, .func (.func 69) #[] #[.pointer (some ⟨w.heap.size + 1 + 1, 0, none⟩)], .int .i64 (x.1.val : Int), .agg #[.int .i64 x.2.1, .int .i64 x.2.2], undef, undef, undef, undef, undef, undef, undef, undef, undef, undef], defers := [] })
    (fun x a' s X Y row h hg hr => by
      obtain ⟨Bc, h1, h2, h3⟩ := h
      exact ⟨Bc, h1, (blk_own (β := Unit) (B := W1.heap.size) fun _ => _) s X Y row h2 hg hr, h3⟩) ?assign ?body ?done ?stop
  case assign =>
    rintro l pre x W K ⟨⟨j1, j2⟩, hB⟩ hK
    gi_wp2
    exact hK _ _ ((KeepsOthers.alloc _ _).from _) (KeepsWalks.alloc _ _) ⟨⟨j1, j2.alloc _⟩, hB.alloc hB.size _⟩ ⟨W.heap.size, j2.lt, Blk.new _ _ _, rfl⟩
  case body =>
    rintro l pre ⟨i, A, B⟩ a' W hl hr ⟨⟨j1, j2⟩, hB⟩ ⟨Bc, hBc, jc, rfl⟩ hlt
    have c0 := jc.cell 0
    have c1 := jc.cell 1
    have q0 := j2.cell 0
    have q1 := j2.frozen 0
    simp at c0 c1 q0
    have hsn : (pre ++ [(i, A, B)]).all okC = (elB A && elB B) := by rw [List.all_append, j1]; simp [okC]
    have HSN := Lib.hid hsn
    have J1 := Lib.hid j1; have J2 := Lib.hid j2; have HB := Lib.hid hB
    clear j1 j2 jc hB hl hr hlt hsn
    cases hA : elB A with
    | false =>
      have HA := Lib.hid hA
      clear hA
      gi_wp2
      refine ⟨trivial, ?_⟩
      refine (CallsIn.inRound l (callsIn_wide.2 (val_c A false _ HA.out))).mono ?_; rintro e w' ⟨rfl, rfl⟩
      gi_wp2
      refine ⟨trivial, ?_⟩
      gi_wp2
      exact ⟨(KeepsOthers.setCell _ _ _).from _, ⟨rfl, by rw [HSN.out, HA.out]; rfl, J2.out.set 0 _⟩, HB.out.setCell (p := ⟨w.heap.size + 1, 0, none⟩) (by simp) _⟩
    | true =>
      have HA := Lib.hid hA
      clear hA
      cases hV : elB B with
      | false =>
        have HV := Lib.hid hV
        clear hV
        gi_wp2
        refine ⟨trivial, ?_⟩
        refine (CallsIn.inRound l (callsIn_wide.2 (val_c A true _ HA.out))).mono ?_; rintro e w' ⟨rfl, rfl⟩
        gi_wp2
        refine ⟨trivial, ?_⟩
        refine (CallsIn.inRound l (callsIn_wide.2 (val_c B false _ HV.out))).mono ?_; rintro e w' ⟨rfl, rfl⟩
        gi_wp2
        exact ⟨(KeepsOthers.setCell _ _ _).from _, ⟨rfl, by rw [HSN.out, HA.out, HV.out]; rfl, J2.out.set 0 _⟩, HB.out.setCell (p := ⟨w.heap.size + 1, 0, none⟩) (by simp) _⟩
      | true =>
        have HV := Lib.hid hV
        clear hV
        gi_wp2
        refine ⟨trivial, ?_⟩
        refine (CallsIn.inRound l (callsIn_wide.2 (val_c A true _ HA.out))).mono ?_; rintro e w' ⟨rfl, rfl⟩
        gi_wp2
        refine ⟨trivial, ?_⟩
        refine (CallsIn.inRound l (callsIn_wide.2 (val_c B true _ HV.out))).mono ?_; rintro e w' ⟨rfl, rfl⟩
        gi_wp2
        exact ⟨(KeepsOthers.refl _).from _, KeepsWalks.refl _, ⟨by rw [HSN.out, HA.out, HV.out]; rfl, J2.out⟩, HB.out⟩
  case done =>
    rintro D ys W hD rfl ⟨⟨j1, j2⟩, hB⟩ hK
    have HE : Hid (chkE a0 b0 a1 b1 a2 b2 = 0) := Lib.hid (by unfold chkE chkB six; rw [j1]; rfl)
    have J2 := Lib.hid j2
    have c0 := j2.cell 0
    have d0 := j2.frozen 0
    simp at c0
    clear j1 j2
    gi_wp2
    have hJ := J2.out.set 0 (.int .i64 0)
    have hO := KeepsOthers.setCell W ⟨w.heap.size + 1, 0, none⟩ (.int .i64 0)
    have hBw := hB.setCell (p := ⟨w.heap.size + 1, 0, none⟩) (by simp) (.int .i64 0)
    generalize W.setCell ⟨w.heap.size + 1, 0, none⟩ (.int .i64 0) = W2 at hJ hO hBw ⊢
    have hK' := hO.same D _ hK rfl
    refine ⟨by simp, .inl ⟨_, _, rfl, run_takeDeferred hK', ?_⟩⟩
    have e0 := cell_kept (hJ.cell 0) (grownBy_putObj' _ D (.deferred none)) (fun r e => by cases e; exact ⟨_, hK', rfl⟩)
    refine ⟨.int .i64 0, ?_, by rw [HE.out], hBw.trans (belowK_b (w := w) (Nat.le_refl _) _ D _ _ (by omega) hK' rfl rfl)⟩
    simp [results, Tryz.f30, go_sem, e0]
  case stop =>
    rintro D c pre W hD hpre ⟨⟨rfl, j1, j2⟩, hB⟩ hK
    have HE : Hid (chkE a0 b0 a1 b1 a2 b2 = 100) := Lib.hid (by unfold chkE chkB six; rw [all_prefix hpre j1]; rfl)
    clear j1
    gi_wp2
    refine ⟨by simp, .inl ⟨_, _, rfl, run_takeDeferred hK, ?_⟩⟩
    have e0 := cell_kept (j2.cell 0) (grownBy_putObj' _ D (.deferred none)) (fun r e => by cases e; exact ⟨_, hK, rfl⟩)
    refine ⟨.int .i64 100, ?_, by rw [HE.out], hB.trans (belowK_b (w := w) (Nat.le_refl _) _ D _ _ (by omega) hK rfl rfl)⟩
    simp [results, Tryz.f30, go_sem, e0]

theorem check_any (a0 b0 a1 b1 a2 b2 : Int) (w : World) :
    Calls Tryz.prog 30 #[sealedV a0 b0 a1 b1 a2 b2] w
      fun e w' => e = .returned (.int .i64 (chkE a0 b0 a1 b1 a2 b2)) ∧ Below w.heap.size w w' := callsIn_wide.1 (check_in a0 b0 a1 b1 a2 b2 w)
end Go.Proofs.YtpjobllfiimdkaaGreatDoor
namespace Go.Proofs.YtpjobllfiimdkaaGreatDoor
open Go.RowKit
set_option linter.unusedVariables false

def secB (s : Int) : Bool := decide (1 ≤ s ∧ s < 1073741789)

set_option maxHeartbeats 400000 in
theorem sec_any (s : Int) (w : World) :
    Calls Tryz.prog 29 #[.int .i64 s] w fun e w' => e = .returned (.bool (secB s)) ∧ w = w' := by
  by_cases h1 : 1 ≤ s
  · by_cases h2 : s < 1073741789
    · have H := Lib.hid (show secB s = true by unfold secB; simp [h1, h2])
      go_enter Tryz.func29, Tryz.ntmps29
      go_wp2
      go_ret
      exact ⟨ret_bool H.out.symm, rfl⟩
    · have H := Lib.hid (show secB s = false by unfold secB; simp; omega)
      go_enter Tryz.func29, Tryz.ntmps29
      go_wp2
      go_ret
      exact ⟨ret_bool H.out.symm, rfl⟩
  · have H := Lib.hid (show secB s = false by unfold secB; simp; omega)
    go_enter Tryz.func29, Tryz.ntmps29
    go_wp2
    go_ret
    exact ⟨ret_bool H.out.symm, rfl⟩

def pubZ (s : Int) : Int := if secB s then powZ 4 s else 0
def pubE (s : Int) : Int := if secB s then 0 else 110

/-- the ints of a slice -/
def IntsAt (w : World) (b off : Nat) (zs : List Int) : Prop := ∀ j, j < zs.length → w.cell? ⟨b, off + j, none⟩ = some (.int .i64 (zs.getD j 0))
theorem IntsAt.below {w w' : World} {n b off : Nat} {zs : List Int} (h : IntsAt w b off zs) (k : Below n w w') (hb : b < n) : IntsAt w' b off zs := fun j hj => (k.cell (p := ⟨b, off + j, none⟩) hb).trans (h j hj)

theorem foldl_take (zs : List Int) (f : Int → Int → Int) (a : Int) (k : Nat) (h : k < zs.length) : (zs.take (k + 1)).foldl f a = f ((zs.take k).foldl f a) (zs.getD k 0) := by
  rw [List.take_succ_eq_append_getElem h, List.foldl_append]; simp [List.getD, h]

def joinZ (zs : List Int) : Int := if zs.all elB then zs.foldl mulZ 1 else 0
def joinE (zs : List Int) : Int := if zs.all elB then 0 else 90

theorem strip_call (sec a0 b0 a1 b1 a2 b2 : Int) (b : Nat) (L : Let) (w : World) (hL : L = mapL (gStrip sec) ((a0, b0), (a1, b1), (a2, b2))) (hb : b < w.heap.size) (hc : w.cell? ⟨b, 0, none⟩ = some (.int .i64 sec)) (s0 : 1 ≤ sec) (s1 : sec < 1073741789) :
    Calls Tryz.prog 31 #[sealedV a0 b0 a1 b1 a2 b2, .slice (some ⟨w.heap.size, 0, none⟩) 1 1] (w.alloc (.cells #[.func (.func 32) #[] #[.pointer (some ⟨b, 0, none⟩)]] 91))
      fun e w' => e = .returned (letV L) ∧ Below w.heap.size w w' := by
  subst hL
  refine (changed_any a0 b0 a1 b1 a2 b2 _ 1 1 _ _ _ _ (by omega) (by simp) (strip_chs hb hc s0 s1)).mono fun e w' h => ⟨h.1, ?_⟩
  exact (bel_alloc1 _ _).trans (h.2.mono (by simp))

set_option maxRecDepth 100000 in
set_option maxHeartbeats 4000000 in
theorem strip_go (sec a0 b0 a1 b1 a2 b2 : Int) (w : World) (L : Let) (E : Int)
    (h1 : Hid (secB sec = false → L = zeroL ∧ E = 110)) (h2 : Hid (secB sec = true → chkE a0 b0 a1 b1 a2 b2 = 100 → L = zeroL ∧ E = 100))
    (h3 : Hid (secB sec = true → chkE a0 b0 a1 b1 a2 b2 = 0 → L = mapL (gStrip sec) ((a0, b0), (a1, b1), (a2, b2)) ∧ E = 0)) :
    Calls Tryz.prog 11 #[.int .i64 sec, sealedV a0 b0 a1 b1 a2 b2] w
      fun e w' => e = .returned (.tuple #[letV L, .int .i64 E]) ∧ Below w.heap.size w w' := by
  have hsc : secB sec = true → 1 ≤ sec ∧ sec < 1073741789 := fun h => of_decide_eq_true h
  have HSC := Lib.hid hsc; clear hsc
  go_enter Tryz.func11, Tryz.ntmps11
  go_wp2_with fail
  refine (sec_any sec _).mono ?_; rintro e w' ⟨rfl, rfl⟩
  obtain ⟨W0, hW⟩ : ∃ W, ((w.alloc (.cells #[.int .i64 sec] 3)).alloc (.cells #[.int .i64 a0, .int .i64 b0, .int .i64 a1, .int .i64 b1, .int .i64 a2, .int .i64 b2] 32)).alloc (.cells #[.int .i64 0, .int .i64 0, .int .i64 0, .int .i64 0, .int .i64 0, .int .i64 0] 32) = W := ⟨_, rfl⟩
  have hB : Below w.heap.size w W0 := by rw [← hW]; exact ((bel_alloc1 _ _).alloc (by simp) _).alloc (by simp; omega) _
  have k0 : Blk W0 w.heap.size #[.int .i64 sec] 3 := by
    rw [← hW]; exact ((Blk.new w _ _).alloc _).alloc _
  have k1 : Blk W0 (w.heap.size + 1) #[.int .i64 a0, .int .i64 b0, .int .i64 a1, .int .i64 b1, .int .i64 a2, .int .i64 b2] 32 := by
    rw [← hW]; have h := Blk.new (w.alloc (.cells #[.int .i64 sec] 3)) #[.int .i64 a0, .int .i64 b0, .int .i64 a1, .int .i64 b1, .int .i64 a2, .int .i64 b2] 32
    rw [World.size_alloc] at h; exact h.alloc _
  have k2 : Blk W0 (w.heap.size + 1 + 1) #[.int .i64 0, .int .i64 0, .int .i64 0, .int .i64 0, .int .i64 0, .int .i64 0] 32 := by
    rw [← hW]; have h := Blk.new ((w.alloc (.cells #[.int .i64 sec] 3)).alloc (.cells #[.int .i64 a0, .int .i64 b0, .int .i64 a1, .int .i64 b1, .int .i64 a2, .int .i64 b2] 32)) #[.int .i64 0, .int .i64 0, .int .i64 0, .int .i64 0, .int .i64 0, .int .i64 0] 32
    rw [World.size_alloc, World.size_alloc] at h; exact h
  rw [hW]
  clear hW
  have J0 := Lib.hid k0; have J1 := Lib.hid k1; have J2 := Lib.hid k2; have JB := Lib.hid hB
  clear k0 k1 k2 hB
  by_cases hv : secB sec = true
  · have HV := Lib.hid hv
    obtain ⟨s0, s1⟩ := HSC.out hv
    rw [hv]
    clear hv
    obtain ⟨c0, c1, c2, c3, c4, c5, _⟩ := blk6_facts J1.out
    go_wp2_with fail
    refine (check_any a0 b0 a1 b1 a2 b2 _).mono ?_
    rintro e W ⟨rfl, hb⟩
    have K0 := Lib.hid (J0.out.below hb J0.out.lt); have K1 := Lib.hid (J1.out.below hb J1.out.lt); have K2 := Lib.hid (J2.out.below hb J2.out.lt); have KB := Lib.hid (bel_trans JB.out hb)
    clear c0 c1 c2 c3 c4 c5 hb
    obtain ⟨c0, c1, c2, c3, c4, c5, _⟩ := blk6_facts K1.out
    by_cases hc : chkE a0 b0 a1 b1 a2 b2 = 0
    · obtain ⟨HL', HE'⟩ := h3.out HV.out hc
      have HL := Lib.hid HL'; have HE := Lib.hid HE'
      rw [hc]
      clear hc HL' HE'
      go_wp2_with fail
      refine (strip_call sec a0 b0 a1 b1 a2 b2 w.heap.size L _ HL.out K0.out.lt (K0.out.cell 0) s0 s1).mono ?_
      rintro e w2 ⟨rfl, hb2⟩
      have hb3 := hb2
      have M2 := Lib.hid (K2.out.below hb3 K2.out.lt); have MB := Lib.hid (bel_trans KB.out hb3)
      clear hb2 hb3 c0 c1 c2 c3 c4 c5
      obtain ⟨c0, c1, c2, c3, c4, c5, d0, d1, d2, d3, d4, d5⟩ := blk6_facts M2.out
      go_wp2_with fail
      have hJ : Blk ((((((w2.setCell ⟨w.heap.size + 1 + 1, 0, none⟩ (.int .i64 L.1.1)).setCell ⟨w.heap.size + 1 + 1, 1, none⟩ (.int .i64 L.1.2)).setCell ⟨w.heap.size + 1 + 1, 2, none⟩ (.int .i64 L.2.1.1)).setCell ⟨w.heap.size + 1 + 1, 3, none⟩ (.int .i64 L.2.1.2)).setCell ⟨w.heap.size + 1 + 1, 4, none⟩ (.int .i64 L.2.2.1)).setCell ⟨w.heap.size + 1 + 1, 5, none⟩ (.int .i64 L.2.2.2)) (w.heap.size + 1 + 1) #[.int .i64 L.1.1, .int .i64 L.1.2, .int .i64 L.2.1.1, .int .i64 L.2.1.2, .int .i64 L.2.2.1, .int .i64 L.2.2.2] 32 := ((((((M2.out.set 0 (.int .i64 L.1.1)).set 1 (.int .i64 L.1.2)).set 2 (.int .i64 L.2.1.1)).set 3 (.int .i64 L.2.1.2)).set 4 (.int .i64 L.2.2.1)).set 5 (.int .i64 L.2.2.2))
      have hBw : Below w.heap.size w ((((((w2.setCell ⟨w.heap.size + 1 + 1, 0, none⟩ (.int .i64 L.1.1)).setCell ⟨w.heap.size + 1 + 1, 1, none⟩ (.int .i64 L.1.2)).setCell ⟨w.heap.size + 1 + 1, 2, none⟩ (.int .i64 L.2.1.1)).setCell ⟨w.heap.size + 1 + 1, 3, none⟩ (.int .i64 L.2.1.2)).setCell ⟨w.heap.size + 1 + 1, 4, none⟩ (.int .i64 L.2.2.1)).setCell ⟨w.heap.size + 1 + 1, 5, none⟩ (.int .i64 L.2.2.2)) := ((((((MB.out.setCell (p := ⟨w.heap.size + 1 + 1, 0, none⟩) (by simp; omega) _).setCell (p := ⟨w.heap.size + 1 + 1, 1, none⟩) (by simp; omega) _).setCell (p := ⟨w.heap.size + 1 + 1, 2, none⟩) (by simp; omega) _).setCell (p := ⟨w.heap.size + 1 + 1, 3, none⟩) (by simp; omega) _).setCell (p := ⟨w.heap.size + 1 + 1, 4, none⟩) (by simp; omega) _).setCell (p := ⟨w.heap.size + 1 + 1, 5, none⟩) (by simp; omega) _)
      generalize ((((((w2.setCell ⟨w.heap.size + 1 + 1, 0, none⟩ (.int .i64 L.1.1)).setCell ⟨w.heap.size + 1 + 1, 1, none⟩ (.int .i64 L.1.2)).setCell ⟨w.heap.size + 1 + 1, 2, none⟩ (.int .i64 L.2.1.1)).setCell ⟨w.heap.size + 1 + 1, 3, none⟩ (.int .i64 L.2.1.2)).setCell ⟨w.heap.size + 1 + 1, 4, none⟩ (.int .i64 L.2.2.1)).setCell ⟨w.heap.size + 1 + 1, 5, none⟩ (.int .i64 L.2.2.2)) = W2 at hJ hBw ⊢
      obtain ⟨e0, e1, e2, e3, e4, e5⟩ := res6_ret hJ
      refine bodyPost_ret (v := .tuple #[letV L, .int .i64 0]) (by simp [results, Tryz.f11, go_sem, zeroL, e0, e1, e2, e3, e4, e5]) rfl ⟨by rw [HE.out], hBw⟩
    · have hc' : chkE a0 b0 a1 b1 a2 b2 = 100 := by unfold chkE at hc ⊢; split at hc <;> simp_all
      obtain ⟨rfl, rfl⟩ := h2.out HV.out hc'
      rw [hc']
      clear hc hc' c0 c1 c2 c3 c4 c5
      obtain ⟨c0, c1, c2, c3, c4, c5, d0, d1, d2, d3, d4, d5⟩ := blk6_facts K2.out
      go_wp2_with fail
      have hJ : Blk ((((((W.setCell ⟨w.heap.size + 1 + 1, 0, none⟩ (.int .i64 0)).setCell ⟨w.heap.size + 1 + 1, 1, none⟩ (.int .i64 0)).setCell ⟨w.heap.size + 1 + 1, 2, none⟩ (.int .i64 0)).setCell ⟨w.heap.size + 1 + 1, 3, none⟩ (.int .i64 0)).setCell ⟨w.heap.size + 1 + 1, 4, none⟩ (.int .i64 0)).setCell ⟨w.heap.size + 1 + 1, 5, none⟩ (.int .i64 0)) (w.heap.size + 1 + 1) #[.int .i64 0, .int .i64 0, .int .i64 0, .int .i64 0, .int .i64 0, .int .i64 0] 32 := ((((((K2.out.set 0 (.int .i64 0)).set 1 (.int .i64 0)).set 2 (.int .i64 0)).set 3 (.int .i64 0)).set 4 (.int .i64 0)).set 5 (.int .i64 0))
      have hBw : Below w.heap.size w ((((((W.setCell ⟨w.heap.size + 1 + 1, 0, none⟩ (.int .i64 0)).setCell ⟨w.heap.size + 1 + 1, 1, none⟩ (.int .i64 0)).setCell ⟨w.heap.size + 1 + 1, 2, none⟩ (.int .i64 0)).setCell ⟨w.heap.size + 1 + 1, 3, none⟩ (.int .i64 0)).setCell ⟨w.heap.size + 1 + 1, 4, none⟩ (.int .i64 0)).setCell ⟨w.heap.size + 1 + 1, 5, none⟩ (.int .i64 0)) := ((((((KB.out.setCell (p := ⟨w.heap.size + 1 + 1, 0, none⟩) (by simp; omega) _).setCell (p := ⟨w.heap.size + 1 + 1, 1, none⟩) (by simp; omega) _).setCell (p := ⟨w.heap.size + 1 + 1, 2, none⟩) (by simp; omega) _).setCell (p := ⟨w.heap.size + 1 + 1, 3, none⟩) (by simp; omega) _).setCell (p := ⟨w.heap.size + 1 + 1, 4, none⟩) (by simp; omega) _).setCell (p := ⟨w.heap.size + 1 + 1, 5, none⟩) (by simp; omega) _)
      generalize ((((((W.setCell ⟨w.heap.size + 1 + 1, 0, none⟩ (.int .i64 0)).setCell ⟨w.heap.size + 1 + 1, 1, none⟩ (.int .i64 0)).setCell ⟨w.heap.size + 1 + 1, 2, none⟩ (.int .i64 0)).setCell ⟨w.heap.size + 1 + 1, 3, none⟩ (.int .i64 0)).setCell ⟨w.heap.size + 1 + 1, 4, none⟩ (.int .i64 0)).setCell ⟨w.heap.size + 1 + 1, 5, none⟩ (.int .i64 0)) = W2 at hJ hBw ⊢
      obtain ⟨e0, e1, e2, e3, e4, e5⟩ := res6_ret hJ
      refine bodyPost_ret (v := .tuple #[letV zeroL, .int .i64 100]) (by simp [results, Tryz.f11, go_sem, zeroL, e0, e1, e2, e3, e4, e5]) rfl ⟨rfl, hBw⟩
  · have hv : secB sec = false := by simpa using hv
    obtain ⟨rfl, rfl⟩ := h1.out hv
    rw [hv]
    clear hv
    obtain ⟨c0, c1, c2, c3, c4, c5, d0, d1, d2, d3, d4, d5⟩ := blk6_facts J2.out
    go_wp2_with fail
    have hJ : Blk ((((((W0.setCell ⟨w.heap.size + 1 + 1, 0, none⟩ (.int .i64 0)).setCell ⟨w.heap.size + 1 + 1, 1, none⟩ (.int .i64 0)).setCell ⟨w.heap.size + 1 + 1, 2, none⟩ (.int .i64 0)).setCell ⟨w.heap.size + 1 + 1, 3, none⟩ (.int .i64 0)).setCell ⟨w.heap.size + 1 + 1, 4, none⟩ (.int .i64 0)).setCell ⟨w.heap.size + 1 + 1, 5, none⟩ (.int .i64 0)) (w.heap.size + 1 + 1) #[.int .i64 0, .int .i64 0, .int .i64 0, .int .i64 0, .int .i64 0, .int .i64 0] 32 := ((((((J2.out.set 0 (.int .i64 0)).set 1 (.int .i64 0)).set 2 (.int .i64 0)).set 3 (.int .i64 0)).set 4 (.int .i64 0)).set 5 (.int .i64 0))
    have hBw : Below w.heap.size w ((((((W0.setCell ⟨w.heap.size + 1 + 1, 0, none⟩ (.int .i64 0)).setCell ⟨w.heap.size + 1 + 1, 1, none⟩ (.int .i64 0)).setCell ⟨w.heap.size + 1 + 1, 2, none⟩ (.int .i64 0)).setCell ⟨w.heap.size + 1 + 1, 3, none⟩ (.int .i64 0)).setCell ⟨w.heap.size + 1 + 1, 4, none⟩ (.int .i64 0)).setCell ⟨w.heap.size + 1 + 1, 5, none⟩ (.int .i64 0)) := ((((((JB.out.setCell (p := ⟨w.heap.size + 1 + 1, 0, none⟩) (by simp; omega) _).setCell (p := ⟨w.heap.size + 1 + 1, 1, none⟩) (by simp; omega) _).setCell (p := ⟨w.heap.size + 1 + 1, 2, none⟩) (by simp; omega) _).setCell (p := ⟨w.heap.size + 1 + 1, 3, none⟩) (by simp; omega) _).setCell (p := ⟨w.heap.size + 1 + 1, 4, none⟩) (by simp; omega) _).setCell (p := ⟨w.heap.size + 1 + 1, 5, none⟩) (by simp; omega) _)
    generalize ((((((W0.setCell ⟨w.heap.size + 1 + 1, 0, none⟩ (.int .i64 0)).setCell ⟨w.heap.size + 1 + 1, 1, none⟩ (.int .i64 0)).setCell ⟨w.heap.size + 1 + 1, 2, none⟩ (.int .i64 0)).setCell ⟨w.heap.size + 1 + 1, 3, none⟩ (.int .i64 0)).setCell ⟨w.heap.size + 1 + 1, 4, none⟩ (.int .i64 0)).setCell ⟨w.heap.size + 1 + 1, 5, none⟩ (.int .i64 0)) = W2 at hJ hBw ⊢
    obtain ⟨e0, e1, e2, e3, e4, e5⟩ := res6_ret hJ
    refine bodyPost_ret (v := .tuple #[letV zeroL, .int .i64 110]) (by simp [results, Tryz.f11, go_sem, zeroL, e0, e1, e2, e3, e4, e5]) rfl ⟨rfl, hBw⟩

def stripE (sec : Int) (s : Let) : Int := if secB sec then chkE s.1.1 s.1.2 s.2.1.1 s.2.1.2 s.2.2.1 s.2.2.2 else 110
def stripR (sec : Int) (s : Let) : Let := if secB sec then (if chkE s.1.1 s.1.2 s.2.1.1 s.2.1.2 s.2.2.1 s.2.2.2 = 0 then mapL (gStrip sec) s else zeroL) else zeroL

theorem strip_any (sec : Int) (s : Let) (w : World) :
    Calls Tryz.prog 11 #[.int .i64 sec, letV s] w
      fun e w' => e = .returned (.tuple #[letV (stripR sec s), .int .i64 (stripE sec s)]) ∧ Below w.heap.size w w' := by
  refine strip_go sec _ _ _ _ _ _ w _ _ ?_ ?_ ?_
  · intro h; unfold stripR stripE; rw [h]; exact ⟨rfl, rfl⟩
  · intro h k; unfold stripR stripE; rw [h, k]; exact ⟨by rw [if_pos rfl, if_neg (by decide)], rfl⟩
  · intro h k; unfold stripR stripE; rw [h, k]; exact ⟨by rw [if_pos rfl, if_pos rfl], rfl⟩
end Go.Proofs.YtpjobllfiimdkaaGreatDoor
