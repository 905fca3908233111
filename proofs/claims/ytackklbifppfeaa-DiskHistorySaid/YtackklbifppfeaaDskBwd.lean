/- slices.Backward over pending writes: its contract. -/
import Derived.RangeFuncNested
import Derived.RangeFuncBound
import Derived.RangeFuncCalls
import Derived.RangeFuncLeaves
import Derived.Shelf.Abstract
import Derived.Shelf.RegionOpen
import Derived.OwnWalkIn
import Derived.TacticsInMore
import Derived.LoopNIn
import Derived.LoopIn
import Derived.Test.YtackklbifppfeaaDskRRd
namespace Go.Proofs.Ytackklbifppfeaa
open Go.RowKit Go.Shelf
set_option linter.unusedVariables false
attribute [local go_sem] Oper.semAt_some

def wAt (ts : List Wt) (x : Fin ts.length) : Wt := ts.getD x.val wt0
abbrev wEnc (ts : List Wt) (x : Fin ts.length) : Array Value := #[.int .i64 (x.val : Int), .agg #[.int .i64 (wAt ts x).pos, .slice (wAt ts x).row.p (wAt ts x).row.m (wAt ts x).row.c]]
/-- the places, from the last one on -/
def revF (n : Nat) : List (Fin n) := (List.finRange n).reverse
theorem revF_len (n : Nat) : (revF n).length = n := by simp [revF]
theorem revF_get {n k : Nat} (h : k < n) (h' : k < (revF n).length) : (revF n)[k] = ⟨n - 1 - k, by omega⟩ := by
  apply Fin.ext
  simp [revF]
theorem revF_take {n k : Nat} (h : k < n) : (revF n).take (k + 1) = (revF n).take k ++ [⟨n - 1 - k, by omega⟩] := by
  rw [List.take_succ_eq_append_getElem (by rw [revF_len]; exact h), revF_get h]
theorem readR_end (k0 : Nat) : ∀ (l : List Wt) (r : Rw), (∀ t ∈ l, t.pos ≠ (k0 : Int)) → readR k0 r l = r
  | [], _, _ => rfl
  | t :: l, r, h => by
    have : readR k0 r (t :: l) = readR k0 (if t.pos = (k0 : Int) then t.row else r) l := rfl
    rw [this, if_neg (h t (by simp))]
    exact readR_end k0 l r (fun u hu => h u (by simp [hu]))
theorem readR_at (k0 : Nat) (r0 : Rw) (ts : List Wt) (i : Nat) (h : i < ts.length) (hx : (ts.getD i wt0).pos = (k0 : Int)) (hr : ∀ j, i < j → j < ts.length → (ts.getD j wt0).pos ≠ (k0 : Int)) : readR k0 r0 ts = (ts.getD i wt0).row := by
  have e : ts = ts.take i ++ ts.getD i wt0 :: ts.drop (i + 1) := by
    rw [List.getD_eq_getElem?_getD, List.getElem?_eq_getElem h]
    simp
  have h2 : readR k0 r0 ts = readR k0 (if (ts.getD i wt0).pos = (k0 : Int) then (ts.getD i wt0).row else readR k0 r0 (ts.take i)) (ts.drop (i + 1)) := by
    have h3 : readR k0 r0 (ts.take i ++ ts.getD i wt0 :: ts.drop (i + 1)) = readR k0 (if (ts.getD i wt0).pos = (k0 : Int) then (ts.getD i wt0).row else readR k0 r0 (ts.take i)) (ts.drop (i + 1)) := by
      simp only [readR, List.foldl_append, List.foldl_cons]
    rw [← e] at h3
    exact h3
  rw [h2, if_pos hx]
  refine readR_end k0 _ _ fun t ht => ?_
  obtain ⟨j, hj, rfl⟩ := List.mem_iff_getElem.1 ht
  rw [List.length_drop] at hj
  have := hr (i + 1 + j) (by omega) (by omega)
  rw [List.getD_eq_getElem?_getD, List.getElem?_eq_getElem (by omega)] at this
  rw [List.getElem_drop]
  exact this
/-- none of these is at the place -/
def noneAt (k0 : Nat) (ts : List Wt) (l : List (Fin ts.length)) : Prop := ∀ t ∈ l, (wAt ts t).pos ≠ (k0 : Int)
theorem none_all {k0 : Nat} {ts : List Wt} {r0 : Rw} (h : noneAt k0 ts (revF ts.length)) : readR k0 r0 ts = r0 := by
  refine readR_end k0 ts r0 fun t ht => ?_
  obtain ⟨j, hj, rfl⟩ := List.mem_iff_getElem.1 ht
  have : (ts.getD j wt0).pos ≠ (k0 : Int) := h ⟨j, hj⟩ (by unfold revF; simp)
  rw [List.getD_eq_getElem?_getD, List.getElem?_eq_getElem hj] at this
  exact this
theorem none_stop {k0 : Nat} {ts : List Wt} {r0 : Rw} {pre : List (Fin ts.length)} {x : Fin ts.length} (hp : (pre ++ [x]) <+: revF ts.length) (h : noneAt k0 ts pre) (hx : (wAt ts x).pos = (k0 : Int)) : readR k0 r0 ts = (wAt ts x).row := by
  have hl : pre.length + 1 ≤ ts.length := by
    have := hp.length_le
    rw [revF_len] at this
    simpa using this
  have hget : ∀ k (hk : k < (pre ++ [x]).length), (pre ++ [x])[k] = ⟨ts.length - 1 - k, by simp at hk; omega⟩ := fun k hk => by
    have := hp.getElem hk
    rw [this, revF_get (by simp at hk; omega)]
  have hxv : x.val = ts.length - 1 - pre.length := by
    have := hget pre.length (by simp)
    rw [List.getElem_append_right (by omega)] at this
    simp at this
    rw [this]
  refine readR_at k0 r0 ts x.val x.isLt hx fun j h1 h2 => ?_
  have hk : ts.length - 1 - j < pre.length := by omega
  have := hget (ts.length - 1 - j) (by simp; omega)
  rw [List.getElem_append_left hk] at this
  have hm : pre[ts.length - 1 - j] ∈ pre := List.getElem_mem hk
  rw [this] at hm
  have h3 : (ts.getD (ts.length - 1 - (ts.length - 1 - j)) wt0).pos ≠ (k0 : Int) := h _ hm
  have e : ts.length - 1 - (ts.length - 1 - j) = j := by omega
  rw [e] at h3
  exact h3

set_option maxHeartbeats 400000 in
theorem backward_any (p : Option Addr) (n cap : Nat) (b : Nat) (w : World) (hb : w.heap.size = b) :
    Calls Try.prog 32 #[.slice p n cap] w
      fun e w' => e = .returned (.func (.func 35) #[] #[.pointer (some ⟨b, 0, none⟩)]) ∧ w.alloc (.cells #[.slice p n cap] 23) = w' := by
  subst hb
  go_enter Try.func32, Try.ntmps32
  go_wp2
  go_ret
  exact ⟨rfl, rfl⟩

set_option maxRecDepth 100000 in
set_option maxHeartbeats 1000000 in
theorem backward_stops (p : Option Addr) (n cap : Nat) (ts : List Wt) (m : Nat) (hm : 1 ≤ m) (b : Nat) (w : World) (hb : b < w.heap.size) (hc : w.cell? ⟨b, 0, none⟩ = some (.slice p n cap)) (hz : Hid (WtsV w p n ts)) :
    SeqStopsK Fence.wide m Try.prog 35 #[.pointer (some ⟨b, 0, none⟩)] (wEnc ts) (Below w.heap.size)
      (fun xs => xs = revF ts.length) (fun pre => pre <+: revF ts.length) n w := fun l J Jx W hW hJ hJx hY h0 => by
  have HC := Lib.hid hc; clear hc
  have HN := Lib.hid hz.out.1
  have hmx := hz.out.2.1
  have HW := Lib.hid hW; clear hW
  have c0 := (HW.out.cell (p := ⟨b, 0, none⟩) hb).trans HC.out
  refine callsIn_of_wp Try.func35 rfl trivial ?_ rfl
  simp only [Try.ntmps35, List.size_toArray, List.length_cons, List.length_nil, Nat.reduceAdd, Nat.reduceSub, Array.replicate_succ, Array.replicate_zero, List.push_toArray, List.append_toArray, List.nil_append, List.cons_append]
  gi_wp2
  clear c0
  gi_loopw [3] (fun i wr => ∃ k : Nat, k ≤ n ∧ i = .int .i64 ((n : Int) - 1 - k) ∧ Hid (Below w.heap.size w wr) ∧ Hid (J ((revF ts.length).take k) wr)) (fun i _ => (intOf i + 1).toNat)
  case atStart => exact ⟨0, by omega, by simp, HW, Lib.hid h0⟩
  case round =>
    obtain ⟨k, hk, rfl, HB, hj⟩ := hrel
    by_cases hlt : k < n
    · have c0 := (HB.out.cell (p := ⟨b, 0, none⟩) hb).trans HC.out
      obtain ⟨b', off, hp, hb', hcell, hcell2, _⟩ := (hz.out.below HB.out).at (k := n - 1 - k) (by omega)
      obtain ⟨j, hjd⟩ : ∃ j : Nat, n - 1 - k = j := ⟨_, rfl⟩
      have hji : (n : Int) - 1 - k = j := by omega
      obtain ⟨⟨f, ⟨xp, xm, xc, xb⟩⟩, hx⟩ : ∃ x, ts.getD (n - 1 - k) wt0 = x := ⟨_, rfl⟩
      rw [hx, hjd] at hcell hcell2
      dsimp only at hcell hcell2
      have hkl : k < ts.length := by rw [← HN.out]; exact hlt
      obtain ⟨xi, hxi⟩ : ∃ xi : Fin ts.length, xi = ⟨ts.length - 1 - k, by omega⟩ := ⟨_, rfl⟩
      have hxv : xi.val = n - 1 - k := by rw [hxi, HN.out]
      have HT : Hid ((revF ts.length).take (k + 1) = (revF ts.length).take k ++ [xi]) := Lib.hid (by rw [hxi]; exact revF_take hkl)
      have HE : wEnc ts xi = #[.int .i64 (j : Int), .agg #[.int .i64 f, .slice xp xm xc]] := by unfold wEnc wAt; rw [hxv, hx, hjd]
      have hjlt : j < n := by omega
      rw [hji]
      clear hx hji hxi hxv hkl
      subst hp
      obtain ⟨fn, tmps, assign, body, hy0, hR⟩ := hY _ xi _ hj.out (by rw [List.length_take, revF_len, ← HN.out]; omega)
      rw [HE] at hy0
      have hy : (Instr.yield l #[.int .i64 (j : Int), .agg #[.int .i64 f, .slice xp xm xc]]).run Try.prog wr = .ok (.round l fn tmps assign body) wr := hy0
      clear hy0 HE
      have HJD := Lib.hid hjd; clear hjd
      gi_wp2
      refine hR.mono ?_
      rintro e W3 (⟨rfl, hJ3, hK3⟩ | ⟨rfl, hJx3⟩)
      · have HB3 := Lib.hid (HB.out.trans hK3)
        have HJ3 := Lib.hid hJ3; clear hK3 hJ3
        gi_wp2
        go_roundw
        case rel => exact ⟨k + 1, by omega, by have := HJD.out; go_num, HB3, Lib.hid (by rw [HT.out]; exact HJ3.out)⟩
        case measure => simp [intOf]
      · have HJx3 := Lib.hid hJx3; clear hJx3
        gi_wp2
        refine bodyPost_ret (results_none rfl _ _ _) rfl ?_
        exact ⟨⟨_, rfl⟩, .inr ⟨_, by rw [← HT.out]; exact List.take_prefix _ _, HJx3.out⟩⟩
    · obtain rfl : k = n := by omega
      have hneg : (k : Int) - 1 - k < 0 := by omega
      gi_wp2
      go_end0
      exact ⟨⟨_, rfl⟩, .inl ⟨_, by rw [List.take_of_length_le (by rw [revF_len, ← HN.out]; exact Nat.le_refl _)], hj.out⟩⟩
end Go.Proofs.Ytackklbifppfeaa
