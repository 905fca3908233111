/- Writes that are synced one by one, and writes that are synced together. -/
import Derived.Test.YtackklbifppfeaaDskAct
namespace Go.Proofs.Ytackklbifppfeaa
open Go.RowKit
set_option linter.unusedVariables false
set_option linter.unusedSimpArgs false

def qOf (ns : Nat) (a : Ac) : Nat := (a.pos % (ns : Int)).toNat
theorem qOf_lt {ns : Nat} {a : Ac} (h : 0 < ns) : qOf ns a < ns := by
  unfold qOf
  have h1 := Int.emod_lt_of_pos a.pos (show (0 : Int) < ns by omega)
  have h2 := Int.emod_nonneg a.pos (show (ns : Int) ≠ 0 by omega)
  omega
theorem qOf_int {ns : Nat} {a : Ac} (h : 0 < ns) : a.pos % (ns : Int) = (qOf ns a : Int) := by
  unfold qOf
  have h2 := Int.emod_nonneg a.pos (show (ns : Int) ≠ 0 by omega)
  omega
theorem run_rem (a : Int) (n : Nat) (h0 : 0 ≤ a) (h1 : 0 < n) (w : World) : (binOp .rem 3 (.int .i64 a) (.int .i64 (n : Int))).run Try.prog w = .ok (.int .i64 (a % (n : Int))) w := by
  rw [binOp_rem]
  unfold Op.intDiv
  rw [if_neg (by omega)]
  show Result.ok (Value.int .i64 (a.tmod n)) w = _
  rw [Int.tmod_eq_emod_of_nonneg h0]
def wOf (ns : Nat) (a : Ac) : Wt := ⟨(qOf ns a : Int), ⟨none, 128, 0, padR [a.byt]⟩⟩
abbrev pbs (x : Wt) : Int × List Int := (x.pos, x.row.bs)
theorem setB_congr : ∀ (ws us : List Wt) (bs : List (List Int)), ws.map pbs = us.map pbs → setB bs ws = setB bs us
  | [], [], _, _ => rfl
  | [], _ :: _, _, h => by simp at h
  | _ :: _, [], _, h => by simp at h
  | x :: ws, y :: us, bs, h => by
    simp only [List.map_cons, List.cons.injEq, Prod.mk.injEq] at h
    obtain ⟨⟨h1, h2⟩, h3⟩ := h
    show setB (bs.set x.pos.toNat x.row.bs) ws = setB (bs.set y.pos.toNat y.row.bs) us
    rw [h1, h2]
    exact setB_congr ws us _ h3
theorem pbs_at {ws us : List Wt} (h : ws.map pbs = us.map pbs) {k : Nat} (hk : k < ws.length) : pbs (ws.getD k wt0) = pbs (us.getD k wt0) := by
  have hl : ws.length = us.length := by have := congrArg List.length h; simpa using this
  have h1 : (ws.map pbs)[k]? = (us.map pbs)[k]? := by rw [h]
  rw [List.getElem?_map, List.getElem?_map, List.getElem?_eq_getElem hk, List.getElem?_eq_getElem (by omega)] at h1
  rw [List.getD_eq_getElem?_getD, List.getElem?_eq_getElem hk, List.getD_eq_getElem?_getD, List.getElem?_eq_getElem (by omega)]
  simpa using h1
theorem synB_congr {ws us : List Wt} {bs : List (List Int)} {left : Int} (h : ws.map pbs = us.map pbs) : synB bs ws left = synB bs us left := by
  have hl : ws.length = us.length := by have := congrArg List.length h; simpa using this
  unfold synB
  rw [hl]
  by_cases hs : stopB left us.length = true
  · rw [if_pos hs, if_pos hs]
    have h1 : setB bs (ws.take left.toNat) = setB bs (us.take left.toNat) := setB_congr _ _ _ (by rw [List.map_take, List.map_take, h])
    have h2 : pbs (ws.getD left.toNat wt0) = pbs (us.getD left.toNat wt0) := pbs_at h (by unfold stopB at hs; simp at hs; omega)
    simp only [pbs, Prod.mk.injEq] at h2
    rw [h1, h2.1, h2.2]
  · rw [if_neg hs, if_neg hs]
    exact setB_congr _ _ _ h
theorem setB_snoc (bs : List (List Int)) (ws : List Wt) (x : Wt) : setB bs (ws ++ [x]) = (setB bs ws).set x.pos.toNat x.row.bs := by simp [setB]
/-- k of the writes W on d have been synced, one by one -/
def Half (d : Dk) (W : List Wt) (k : Nat) (x : Dk) : Prop := x.run = true ∧ x.ws = [] ∧ x.bs = setB d.bs (W.take k) ∧ x.left = (if 0 ≤ d.left then d.left - k else d.left) ∧ (0 ≤ d.left → (k : Int) ≤ d.left) ∧ x.rs.length = d.rs.length ∧ k ≤ W.length
/-- all of them, as one sync would -/
def Whole (d : Dk) (W : List Wt) (x : Dk) : Prop := x.ws = [] ∧ x.bs = synB d.bs W d.left ∧ x.left = synL d.left W.length ∧ x.st = stopB d.left W.length ∧ x.rs.length = d.rs.length
theorem half_next {d x x1 z : Dk} {W : List Wt} {k q : Nat} {bs : List Int} (h : Half d W k x) (hk : k < W.length) (hw : Wrote x q bs x1) (hW : pbs (W.getD k wt0) = ((q : Int), padR bs)) (hs : Synced x1 z) (hr1 : x1.run = true) :
    (stopB x1.left x1.ws.length = false ∧ Half d W (k + 1) z) ∨ (stopB x1.left x1.ws.length = true ∧ Whole d W z ∧ stopB d.left W.length = true) := by
  obtain ⟨a1, a2, a3, a4, a5, a6, a7⟩ := h
  obtain ⟨b1, b2, b3, r, b4, b5, b6⟩ := hw
  have hx1 : x1.ws = [⟨(q : Int), r⟩] := by rw [b4, a2]; rfl
  have hbs1 : x1.bs = setB d.bs (W.take k) := by rw [← a3]; unfold Dk.bs; rw [b1]
  have hl1 : x1.left = (if 0 ≤ d.left then d.left - k else d.left) := by rw [b2, a4]
  have hlen : x1.ws.length = 1 := by rw [hx1]; rfl
  have ht : W.take (k + 1) = W.take k ++ [W.getD k wt0] := take_snocD W k wt0 hk
  simp only [pbs, Prod.mk.injEq] at hW
  have hL : -1 ≤ d.left ∨ True := .inr trivial
  cases hst : stopB x1.left x1.ws.length with
  | false =>
    refine .inl ⟨rfl, synced_run hs hr1 hst, hs.1, ?_, ?_, ?_, ?_, by omega⟩
    · rw [hs.2.1]
      unfold synB
      rw [hst, hx1, hbs1, ht, setB_snoc, hW.1, hW.2]
      simp [setB, b6]
    · rw [hs.2.2.2.1]
      unfold synL
      rw [hst, hl1, hlen]
      rw [hlen, hl1] at hst
      unfold stopB at hst
      simp only [decide_eq_false_iff_not] at hst
      simp only [Bool.false_eq_true, if_false]
      by_cases h0 : 0 ≤ d.left
      · have := a5 h0
        rw [if_pos h0] at hst ⊢
        rw [if_pos (by omega)]
        rw [if_pos h0]
        omega
      · rw [if_neg h0] at hst ⊢
        rw [if_neg h0, if_neg h0]
    · intro h0
      have := a5 h0
      rw [hlen, hl1, if_pos h0] at hst
      unfold stopB at hst
      simp only [decide_eq_false_iff_not] at hst
      omega
    · rw [hs.2.2.2.2.2, b1, a6]
  | true =>
    have h0 : 0 ≤ d.left := by
      rw [hlen, hl1] at hst
      unfold stopB at hst
      simp only [decide_eq_true_eq] at hst
      by_cases h0 : 0 ≤ d.left
      · exact h0
      · rw [if_neg h0] at hst; omega
    have hkl : d.left = (k : Int) := by
      have := a5 h0
      rw [hlen, hl1, if_pos h0] at hst
      unfold stopB at hst
      simp only [decide_eq_true_eq] at hst
      omega
    have hsW : stopB d.left W.length = true := by unfold stopB; simp; omega
    refine .inr ⟨rfl, ⟨hs.1, ?_, ?_, ?_, ?_⟩, hsW⟩
    · have hl0 : x1.left = 0 := by rw [hl1, if_pos h0]; omega
      rw [hs.2.1]
      unfold synB
      rw [if_pos hst, if_pos hsW, hx1, hl0, hkl, hbs1, Int.toNat_natCast, hW.1, hW.2]
      show (setB d.bs (W.take k)).set _ (tornB ((setB d.bs (W.take k)).getD _ []) r.bs) = _
      rw [b6]
      rfl
    · rw [hs.2.2.2.1]; unfold synL; rw [if_pos hst, if_pos hsW]
    · rw [hs.2.2.2.2.1, hst, hsW]
    · rw [hs.2.2.2.2.2, b1, a6]
theorem half_end {d x : Dk} {W : List Wt} (h : Half d W W.length x) : Whole d W x ∧ stopB d.left W.length = false := by
  obtain ⟨a1, a2, a3, a4, a5, a6, a7⟩ := h
  have hs : stopB d.left W.length = false := by
    unfold stopB; simp only [decide_eq_false_iff_not]
    intro hh
    have := a5 hh.1
    omega
  refine ⟨⟨a2, ?_, ?_, by rw [(Dk.facts a1).2.2.2, hs], a6⟩, hs⟩
  · rw [a3]; unfold synB; rw [if_neg (by rw [hs]; simp), List.take_of_length_le (Nat.le_refl _)]
  · rw [a4]; unfold synL; rw [hs]; rfl
theorem half_start {d : Dk} {W : List Wt} (hr : d.run = true) (hw : d.ws = []) : Half d W 0 d :=
  ⟨hr, hw, rfl, by split <;> simp, fun h => by simpa using h, rfl, Nat.zero_le _⟩
/-- what the first loop has done -/
def Loop1 (d : Dk) (W : List Wt) (k : Nat) (x : Dk) (e : Int) : Prop := (e = 0 ∧ Half d W k x) ∨ (e = 40 ∧ Whole d W x ∧ stopB d.left W.length = true)
/-- k of the writes W on d are pending -/
def Pend (d : Dk) (W : List Wt) (k : Nat) (y : Dk) : Prop := y.run = true ∧ y.ws.map pbs = (W.take k).map pbs ∧ y.rs = d.rs ∧ y.left = d.left ∧ k ≤ W.length
theorem pend_start {d : Dk} {W : List Wt} (hr : d.run = true) (hw : d.ws = []) : Pend d W 0 d := ⟨hr, by rw [hw]; rfl, rfl, rfl, Nat.zero_le _⟩
theorem pend_next {d y z : Dk} {W : List Wt} {k q : Nat} {bs : List Int} (h : Pend d W k y) (hk : k < W.length) (hw : Wrote y q bs z) (hW : pbs (W.getD k wt0) = ((q : Int), padR bs)) (hq : q < d.rs.length) (hn : W.length ≤ 4096) : Pend d W (k + 1) z := by
  obtain ⟨a1, a2, a3, a4, a5⟩ := h
  have hyl : y.ws.length = k := by have := congrArg List.length a2; simp at this; omega
  refine ⟨wrote_run hw a1 (by rw [a3]; exact hq) (by omega), ?_, hw.1.trans a3, hw.2.1.trans a4, by omega⟩
  obtain ⟨_, _, _, r, b4, b5, b6⟩ := hw
  rw [b4, take_snocD W k wt0 hk, List.map_append, List.map_append, a2]
  simp only [List.map_cons, List.map_nil]
  rw [hW]
  simp [b6]
theorem together {d x y z : Dk} {W : List Wt} {w1 w2 : World} (hx : Whole d W x) (hy : Pend d W W.length y) (hz : Synced y z) (o1 : DkOk w1 x) (o2 : DkOk w2 z) : Alike x z := by
  obtain ⟨a1, a2, a3, a4, a5⟩ := hx
  obtain ⟨b1, b2, b3, b4, b5⟩ := hy
  obtain ⟨c1, c2, c3, c4, c5, c6⟩ := hz
  rw [List.take_of_length_le (Nat.le_refl _)] at b2
  have hl : y.ws.length = W.length := by have := congrArg List.length b2; simpa using this
  have hb : y.bs = d.bs := by unfold Dk.bs; rw [b3]
  refine ⟨?_, ?_, ?_, ?_, sameRs_of (a2.trans ?_), by rw [a1, c1]; exact fun _ _ => ⟨rfl, rfl⟩⟩
  · rw [o1.lens.1, o2.lens.1, a5, c6, b3]
  · rw [o1.lens.2, o2.lens.2, a1, c1]
  · rw [a3, c4, b4, hl]
  · rw [a4, c5, b4, hl]
  · show _ = z.bs
    rw [c2, hb, b4]
    exact (synB_congr b2).symm
theorem pend_stop {d y : Dk} {W : List Wt} (hy : Pend d W W.length y) : stopB y.left y.ws.length = stopB d.left W.length := by
  obtain ⟨b1, b2, b3, b4, b5⟩ := hy
  rw [List.take_of_length_le (Nat.le_refl _)] at b2
  have hl : y.ws.length = W.length := by have := congrArg List.length b2; simpa using this
  rw [b4, hl]
end Go.Proofs.Ytackklbifppfeaa
