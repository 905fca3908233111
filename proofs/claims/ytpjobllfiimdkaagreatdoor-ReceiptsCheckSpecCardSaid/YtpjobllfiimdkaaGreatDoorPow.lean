/- group.Pow returns the power of an element to any int, by the squares that an iterator yields. -/
import Derived.RangeFuncNested
import Derived.RangeFuncBound
import Derived.RangeFuncCalls
import Derived.RangeFuncLeaves
import Derived.Shelf.Abstract
import Derived.Shelf.RegionOpen
import Derived.OwnWalkIn
import Derived.TacticsInMore
import Derived.LoopNIn
import Derived.LoopIn
import Derived.Test.YtpjobllfiimdkaaGreatDoorGroup
namespace Go.Proofs.YtpjobllfiimdkaaGreatDoor
open Go.RowKit Go.Shelf
set_option linter.unusedVariables false
attribute [local go_sem] Oper.semAt_some

theorem cell_new_l (W : World) (v : Value) (t : TypeId) : (W.alloc (.cells #[v] t)).cell? ⟨W.heap.size, 0, none⟩ = some v ∧ (W.alloc (.cells #[v] t)).frozen? ⟨W.heap.size, 0, none⟩ = false :=
  ⟨by simp, by simp⟩
theorem cell_alloc_l {W : World} {a : Addr} {v : Value} (o : Obj) (h : W.cell? a = some v) : (W.alloc o).cell? a = some v := cell_kept h (World.grownBy_alloc W o none) (fun r e => by cases e)
theorem frozen_alloc_l {W : World} {a : Addr} {v : Value} (o : Obj) (h : W.cell? a = some v) (hf : W.frozen? a = false) : (W.alloc o).frozen? a = false := (frozen_kept h (World.grownBy_alloc W o none) (fun r e => by cases e)).trans hf

/-- what an iterator of squares hands over: a number below P, and a bit -/
abbrev Sq := { p : Int × Bool // 0 ≤ p.1 ∧ p.1 < 2147483579 }
abbrev sqEnc (x : Sq) : Array Value := #[.int .i64 x.1.1, .bool x.1.2]

/-- what is multiplied together of all that has come -/
def prods : List Sq → Int := List.foldl (fun c x => if x.1.2 then c * x.1.1 % 2147483579 else c) 1
theorem prods_snoc (l : List Sq) (x : Sq) : prods (l ++ [x]) = if x.1.2 then prods l * x.1.1 % 2147483579 else prods l := by simp [prods]
theorem prods_range (l : List Sq) : 0 ≤ prods l ∧ prods l < 2147483579 := by
  unfold prods
  have : ∀ (l : List Sq) (c : Int), 0 ≤ c → c < 2147483579 → 0 ≤ l.foldl (fun c x => if x.1.2 then c * x.1.1 % 2147483579 else c) c ∧ l.foldl (fun c x => if x.1.2 then c * x.1.1 % 2147483579 else c) c < 2147483579 := by
    intro l
    induction l with
    | nil => intro c h1 h2; exact ⟨h1, h2⟩
    | cons x l ih =>
      intro c h1 h2
      simp only [List.foldl]
      split
      · exact ih _ (Int.emod_nonneg _ (by omega)) (Int.emod_lt_of_pos _ (by omega))
      · exact ih _ h1 h2
  exact this l 1 (by omega) (by omega)

/-- a power modulo P -/
def powN (a n : Nat) : Nat := a ^ n % 2147483579

/-- the iterator's state: what has come, the square at hand and the rest of the exponent give the power -/
def SqState (a n : Nat) (pre : List Sq) (s r : Int) : Prop :=
  0 ≤ s ∧ s < 2147483579 ∧ 0 ≤ r ∧ pre.length + r.toNat ≤ n ∧ ((prods pre).toNat * s.toNat ^ r.toNat) % 2147483579 = powN a n

theorem sq_start {a n : Nat} (ha : a < 2147483579) : SqState a n [] a n := by
  refine ⟨by omega, by omega, by omega, by simp, ?_⟩
  simp [prods, powN]

theorem sq_end {a n : Nat} {pre : List Sq} {s : Int} (h : SqState a n pre s 0) : (prods pre).toNat = powN a n := by
  obtain ⟨_, _, _, _, h⟩ := h
  rw [← h]
  have := prods_range pre
  simp; omega

theorem toNat_mul {a b : Int} (ha : 0 ≤ a) (hb : 0 ≤ b) : (a * b).toNat = a.toNat * b.toNat := by
  obtain ⟨a, rfl⟩ := Int.eq_ofNat_of_zero_le ha
  obtain ⟨b, rfl⟩ := Int.eq_ofNat_of_zero_le hb
  rw [← Int.natCast_mul]; rfl

theorem sq_next {a n : Nat} {pre : List Sq} {s r : Int} (h : SqState a n pre s r) (hr : 0 < r) (hs : 0 ≤ s ∧ s < 2147483579) :
    SqState a n (pre ++ [⟨(s, (r % 2 == 1)), hs⟩]) (s * s % 2147483579) (r / 2) := by
  obtain ⟨h1, h2, h3, h4, h5⟩ := h
  have hp := prods_range pre
  refine ⟨Int.emod_nonneg _ (by omega), Int.emod_lt_of_pos _ (by omega), by omega, by simp; omega, ?_⟩
  rw [prods_snoc, ← h5]
  have e2 : (s * s % 2147483579).toNat = (s.toNat * s.toNat) % 2147483579 := by
    rw [toNat_mod (Int.mul_nonneg h1 h1) (by omega), toNat_mul h1 h1]; rfl
  have e3 : (r / 2).toNat = r.toNat / 2 := by omega
  rw [e2, e3]
  have hpow : ∀ c : Nat, (c * ((s.toNat * s.toNat) % 2147483579) ^ (r.toNat / 2)) % 2147483579 = (c * (s.toNat * s.toNat) ^ (r.toNat / 2)) % 2147483579 := by
    intro c; rw [Nat.mul_mod, ← Nat.pow_mod, ← Nat.mul_mod]
  rw [hpow]
  rcases Int.emod_two_eq r with e | e
  · have hb : (r % 2 == 1) = false := by rw [e]; rfl
    simp only [hb]
    have er : r.toNat = 2 * (r.toNat / 2) := by omega
    rw [if_neg (by simp)]
    conv => rhs; rw [er, Nat.pow_mul, Nat.pow_two]
  · have hb : (r % 2 == 1) = true := by rw [e]; rfl
    simp only [hb]
    have er : r.toNat = 2 * (r.toNat / 2) + 1 := by omega
    rw [if_pos trivial, toNat_mod (Int.mul_nonneg hp.1 h1) (by omega), toNat_mul hp.1 h1]
    conv => rhs; rw [er, Nat.pow_succ, Nat.pow_mul, Nat.pow_two]
    show ((prods pre).toNat * s.toNat % 2147483579 * (s.toNat * s.toNat) ^ (r.toNat / 2)) % 2147483579 = _
    rw [Nat.mod_mul_mod]
    congr 1; ac_rfl

set_option maxRecDepth 100000 in
set_option maxHeartbeats 1000000 in
/-- THE ITERATOR OF SQUARES: whatever the loop, all that comes gives the power. -/
theorem squares_stops (a n : Int) (a0 : 0 ≤ a) (ha : a < 2147483579) (n0 : 0 ≤ n) (hn : n ≤ 1073741789) (m : Nat) (hm : 1 ≤ m) (b1 b2 : Nat) (w : World) (hb1 : b1 < w.heap.size) (hb2 : b2 < w.heap.size)
    (hc1 : w.cell? ⟨b1, 0, none⟩ = some (.int .i64 a)) (hc2 : w.cell? ⟨b2, 0, none⟩ = some (.int .i64 n)) :
    SeqStopsK Fence.wide m Tryz.prog 93 #[.pointer (some ⟨b1, 0, none⟩), .pointer (some ⟨b2, 0, none⟩)] sqEnc KeepsWalks
      (fun xs => (prods xs).toNat = powN a.toNat n.toNat) (fun _ => True) n.toNat w := fun l J Jx W hW _ _ hY h0 => by
  have d1 : W.cell? ⟨b1, 0, none⟩ = some (.int .i64 a) := (hW.cell (p := ⟨b1, 0, none⟩) hb1).trans hc1
  have d2 : W.cell? ⟨b2, 0, none⟩ = some (.int .i64 n) := (hW.cell (p := ⟨b2, 0, none⟩) hb2).trans hc2
  have HS : Hid (SqState a.toNat n.toNat [] a n) := Lib.hid (by
    have := sq_start (a := a.toNat) (n := n.toNat) (by omega)
    rwa [Int.toNat_of_nonneg a0, Int.toNat_of_nonneg n0] at this)
  clear hc1 hc2
  refine callsIn_of_wp Tryz.func93 rfl trivial ?_ rfl
  simp only [Tryz.ntmps93, List.size_toArray, List.length_cons, List.length_nil, Nat.reduceAdd, Nat.reduceSub, Array.replicate_succ, Array.replicate_zero, List.push_toArray, List.append_toArray, List.nil_append, List.cons_append]
  gi_wp2
  gi_loopw [4, 5] (fun s r wr => ∃ (pre : List Sq) (s' r' : Int), s = .int .i64 s' ∧ r = .int .i64 r' ∧ Hid (SqState a.toNat n.toNat pre s' r') ∧ J pre wr) (fun _ r _ => (intOf r).toNat)
  case atStart => exact ⟨[], a, n, rfl, rfl, HS, h0⟩
  case round =>
    obtain ⟨pre, s, r, rfl, rfl, hst, hJ⟩ := hrel
    have hst' := hst.out
    obtain ⟨s0, s1, r0, hl, _⟩ := hst'
    by_cases hr : 0 < r
    · have hnx := Lib.hid (sq_next hst.out hr ⟨s0, s1⟩)
      obtain ⟨fn, tmps, assign, body, hy, hR⟩ := hY pre ⟨(s, (r % 2 == 1)), ⟨s0, s1⟩⟩ wr hJ (by omega)
      dsimp only [sqEnc] at hy
      have hrn : r ≤ 1073741789 := by omega
      gi_wp2
      refine hR.mono ?_
      rintro e W3 (⟨rfl, hJ3, _⟩ | ⟨rfl, hJx3⟩)
      · gi_wp2_with (refine ⟨trivial, ?_⟩; gi_at_call 74; refine (callsIn_wide.2 (gmul_any _ _ _ s0 s1 s0 s1)).mono ?_; rintro e w' ⟨rfl, rfl⟩)
        go_roundw
        case rel => exact ⟨_, _, _, rfl, rfl, hnx, hJ3⟩
        case measure => simp [intOf]; omega
      · gi_wp2
        refine bodyPost_ret (results_none rfl _ _ _) rfl ?_
        exact ⟨⟨_, rfl⟩, .inr ⟨_, trivial, hJx3⟩⟩
    · obtain rfl : r = 0 := by omega
      have hfin := Lib.hid (sq_end hst.out)
      gi_wp2
      go_end0
      exact ⟨⟨_, rfl⟩, .inl ⟨pre, hfin.out, hJ⟩⟩

/-- the power of an element to an int; 0 if it is none -/
def powZ (a n : Int) : Int := if elB a then (powN a.toNat (n % 1073741789).toNat : Int) else 0
def powE (a : Int) : Int := if elB a then 0 else 90

set_option maxRecDepth 100000 in
set_option maxHeartbeats 1000000 in
theorem pow_in (a n : Int) (w : World) (hv : elB a = true) :
    CallsIn Fence.wide 5 Tryz.prog 39 #[.int .i64 a, .int .i64 n] w fun e w' => e = .returned (.tuple #[.int .i64 (powZ a n), .int .i64 (powE a)]) ∧ Below w.heap.size w w' := by
  have e1 := Lib.hid (show powZ a n = (powN a.toNat (n % 1073741789).toNat : Int) by unfold powZ; rw [hv]; rfl)
  have e2 := Lib.hid (show powE a = 0 by unfold powE; rw [hv]; rfl)
  have HV := Lib.hid hv
  obtain ⟨a1, a2⟩ := elB_iff hv
  have m1 := Int.emod_nonneg n (show (1073741789 : Int) ≠ 0 by omega)
  have m2 := Int.emod_lt_of_pos n (show (0 : Int) < 1073741789 by omega)
  generalize hm : n % 1073741789 = k at m1 m2 e1
  have HM := Lib.hid hm; clear hm
  refine callsIn_of_wp_marks Tryz.func39 rfl trivial ?_ rfl
  simp only [Tryz.ntmps39, List.size_toArray, List.length_cons, List.length_nil, Nat.reduceAdd, Nat.reduceSub, Array.replicate_succ, Array.replicate_zero, List.push_toArray, List.append_toArray, List.nil_append, List.cons_append]
  gi_wp2_with (refine ⟨trivial, ?_⟩; gi_at_call 25; refine (callsIn_wide.2 (valid_any _ _)).mono ?_; rintro e w' ⟨rfl, rfl⟩)
  refine ⟨trivial, ?_⟩
  refine (callsIn_wide.2 (gexp_any n (w.heap.size + 1) _ (by simp))).mono ?_; rintro e w' ⟨rfl, rfl⟩
  rw [HM.out]
  gi_wp2
  refine ⟨trivial, ?_⟩
  refine (callsIn_wide.2 (gsquares_any a k (w.heap.size + 1 + 1) _ (by simp))).mono ?_; rintro e w' ⟨rfl, rfl⟩
  gi_wp2
  obtain ⟨W1, hW1⟩ : ∃ W1, (((w.alloc (.cells #[.int .i64 1] 3)).alloc (.cells #[.int .i64 n] 3)).alloc (.cells #[.int .i64 a] 3)).alloc (.cells #[.int .i64 k] 3) = W1 := ⟨_, rfl⟩
  have hB0 : Below w.heap.size w W1 := by
    rw [← hW1]; exact (((bel_alloc1 _ _).alloc (by simp) _).alloc (by simp; omega) _).alloc (by simp; omega) _
  have hsz : W1.heap.size = w.heap.size + 4 := by rw [← hW1]; simp
  have c0 : W1.cell? ⟨w.heap.size, 0, none⟩ = some (.int .i64 1) ∧ W1.frozen? ⟨w.heap.size, 0, none⟩ = false := by
    rw [← hW1]; have h := cell_new_l w (.int .i64 1) 3
    exact ⟨cell_alloc_l _ (cell_alloc_l _ (cell_alloc_l _ h.1)), frozen_alloc_l _ (cell_alloc_l _ (cell_alloc_l _ h.1)) (frozen_alloc_l _ (cell_alloc_l _ h.1) (frozen_alloc_l _ h.1 h.2))⟩
  have c2 : W1.cell? ⟨w.heap.size + 1 + 1, 0, none⟩ = some (.int .i64 a) := by
    rw [← hW1]; refine cell_alloc_l _ ?_
    have := (cell_new_l ((w.alloc (.cells #[.int .i64 1] 3)).alloc (.cells #[.int .i64 n] 3)) (.int .i64 a) 3).1
    simpa using this
  have c3 : W1.cell? ⟨w.heap.size + 1 + 1 + 1, 0, none⟩ = some (.int .i64 k) := by
    rw [← hW1]
    have := (cell_new_l (((w.alloc (.cells #[.int .i64 1] 3)).alloc (.cells #[.int .i64 n] 3)).alloc (.cells #[.int .i64 a] 3)) (.int .i64 k) 3).1
    simpa using this
  rw [hW1]
  clear hW1
  refine wpIn_rangeFunc_ownF rfl (by omega) (gf := 93) (lb := #[.pointer (some ⟨w.heap.size + 1 + 1, 0, none⟩), .pointer (some ⟨w.heap.size + 1 + 1 + 1, 0, none⟩)]) rfl trivial (enters_of Tryz.func93 (by kernel_rfl) rfl)
    (squares_stops a k (by omega) a2 m1 (by omega) 4 (by omega) (w.heap.size + 1 + 1) (w.heap.size + 1 + 1 + 1) W1 (by omega) (by omega) c2 c3) walksK_t walksK_b (Below.refl _ _) (fun _ => rfl)
    (fun pre W => (W.cell? ⟨w.heap.size, 0, none⟩ = some (.int .i64 (prods pre)) ∧ W.frozen? ⟨w.heap.size, 0, none⟩ = false) ∧ Below w.heap.size w W)
    (fun _ _ _ => False)
    (OwnFrom.and (Own.from (fun s A B row hs hg hr => ⟨cell_kept hs.1 hg hr, (frozen_kept hs.1 hg hr).trans hs.2⟩) _) (ownFrom_below (Nat.le_refl _) (by omega)))
    (fun _ _ _ _ _ hs _ _ => hs)
    ⟨c0, hB0⟩
    (fun x => { tmps := #[.int .i64 a, .int .i64 n, undef, undef, .pointer (some ⟨w.heap.size, 0, none⟩), .int .i64 0, .int .i64 x.1.1, .bool x.1.2, .int .i64 a, .bool true, .bool false, .int .i64 a, .int .i64 n, .slice (some ⟨w.heap.size + 1, 0, none⟩) 1 1, .int .i64 k, .func (.func 93) #[] #[.pointer (some ⟨w.heap.size + 1 + 1, 0, none⟩), .pointer (some ⟨w.heap.size + 1 + 1 + 1, 0, none⟩)], .int .i64 x.1.1, .bool x.1.2, undef, undef, undef, undef, undef], defers := [] }) ?assign ?body ?done ?stop
  case assign =>
    intro l x W K hK
    gi_wp2
    exact hK
  case body =>
    rintro l pre ⟨⟨s, bit⟩, hs1, hs2⟩ W ⟨⟨hc, hf⟩, hB⟩ _
    have hp := prods_range pre
    obtain ⟨p1, p2⟩ := hp
    have hsn := prods_snoc pre ⟨(s, bit), hs1, hs2⟩
    generalize hq : prods (pre ++ [⟨(s, bit), hs1, hs2⟩]) = q at hsn
    have HQ := Lib.hid hq
    generalize prods pre = p at hc p1 p2 hsn
    have HSN := Lib.hid hsn
    clear hsn hq
    cases bit with
    | true =>
      gi_wp2_with (refine ⟨trivial, ?_⟩; gi_at_call 74; refine (CallsIn.inRound l (callsIn_wide.2 (gmul_any _ _ _ p1 p2 hs1 hs2))).mono ?_; rintro e w' ⟨rfl, rfl⟩)
      refine ⟨KeepsOthers.setCell _ _ _, (KeepsOthers.setCell _ _ _).walks, ⟨?_, by rw [World.frozen?_setCell]; exact hf⟩, hB.setCell (p := ⟨w.heap.size, 0, none⟩) (Nat.le_refl _) _⟩
      rw [HQ.out, HSN.out, if_pos trivial]
      exact World.cell?_setCell_same' _ _ _ (by rw [hc]; rfl)
    | false =>
      gi_wp2
      refine ⟨KeepsOthers.refl _, (KeepsOthers.refl _).walks, ⟨?_, hf⟩, hB⟩
      rw [HQ.out, HSN.out, if_neg (by simp)]
      exact hc
  case done =>
    rintro D ys W hD hS ⟨⟨hc, hf⟩, hB⟩ hK
    have hpr := prods_range ys
    have HE : Hid (prods ys = powZ a n) := Lib.hid (by rw [e1.out, ← hS]; omega)
    generalize prods ys = q at hc HE
    gi_wp2
    have hK' := (KeepsOthers.setCell W ⟨w.heap.size, 0, none⟩ (.int .i64 q)).same D _ hK rfl
    refine ⟨by simp, .inl ⟨_, _, rfl, run_takeDeferred hK', ?_⟩⟩
    have hc5 := cell_kept (World.cell?_setCell_same' W ⟨w.heap.size, 0, none⟩ (.int .i64 q) (by rw [hc]; rfl)) (grownBy_putObj' _ D (.deferred none)) (fun r e => by cases e; exact ⟨_, hK', rfl⟩)
    refine ⟨.tuple #[.int .i64 q, .int .i64 0], ?_, by rw [HE.out, e2.out], (hB.setCell (p := ⟨w.heap.size, 0, none⟩) (Nat.le_refl _) _).trans (belowK_b (w := w) (Nat.le_refl _) _ D _ _ (by omega) hK' rfl rfl)⟩
    simp [results, Tryz.f39, go_sem, hc5]
  case stop =>
    rintro D c pre W _ _ h _
    exact h.elim

set_option maxHeartbeats 400000 in
theorem pow_no (a n : Int) (w : World) (hv : elB a = false) :
    Calls Tryz.prog 39 #[.int .i64 a, .int .i64 n] w fun e w' => e = .returned (.tuple #[.int .i64 (powZ a n), .int .i64 (powE a)]) ∧ Below w.heap.size w w' := by
  have e1 := Lib.hid (show powZ a n = 0 by unfold powZ; rw [hv]; rfl)
  have e2 := Lib.hid (show powE a = 90 by unfold powE; rw [hv]; rfl)
  have HV := Lib.hid hv
  go_enter Tryz.func39, Tryz.ntmps39
  go_wp2_with (go_at_call 25; refine (valid_any _ _).mono ?_; rintro e w' ⟨rfl, rfl⟩)
  exact bodyPost_ret (v := .tuple #[.int .i64 0, .int .i64 90]) (by simp [results, Tryz.f39, go_sem]) rfl ⟨ret_two e1.out.symm e2.out.symm, bel_alloc1 _ _⟩

/-- **group.Pow, at all ints** -/
theorem gPow_any (a n : Int) (w : World) :
    Calls Tryz.prog 39 #[.int .i64 a, .int .i64 n] w fun e w' => e = .returned (.tuple #[.int .i64 (powZ a n), .int .i64 (powE a)]) ∧ Below w.heap.size w w' := by
  cases hv : elB a with
  | true => exact callsIn_wide.1 (pow_in a n w hv)
  | false => exact pow_no a n w hv
end Go.Proofs.YtpjobllfiimdkaaGreatDoor
