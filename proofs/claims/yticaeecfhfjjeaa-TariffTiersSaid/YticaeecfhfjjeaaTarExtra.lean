/- What a crowd costs in addition: the reference's loop, and the tariff's own, from the last tier on. -/
import Derived.RangeFuncNested
import Derived.RangeFuncBound
import Derived.RangeFuncCalls
import Derived.RangeFuncLeaves
import Derived.Shelf.Abstract
import Derived.Shelf.RegionOpen
import Derived.OwnWalkIn
import Derived.TacticsInMore
import Derived.LoopNIn
import Derived.LoopIn
import Derived.Test.YticaeecfhfjjeaaTarCheck
namespace Go.Proofs.Yticaeecfhfjjeaa
open Go.RowKit Go.Shelf
set_option linter.unusedVariables false
attribute [local go_sem] Oper.semAt_some

def extraF (crowd : Int) (ts : List Tr) : Int := ts.foldl (fun n t => if t.1 ≤ crowd then t.2 else n) 0
theorem extraF_snoc (crowd : Int) (ts : List Tr) (t : Tr) : extraF crowd (ts ++ [t]) = if t.1 ≤ crowd then t.2 else extraF crowd ts := by simp [extraF]
theorem extraF_none (crowd : Int) : ∀ ts : List Tr, (∀ t ∈ ts, crowd < t.1) → extraF crowd ts = 0 := by
  intro ts h
  unfold extraF
  have : ∀ (l : List Tr) (a : Int), (∀ t ∈ l, crowd < t.1) → l.foldl (fun n t => if t.1 ≤ crowd then t.2 else n) a = a := by
    intro l
    induction l with
    | nil => intro a _; rfl
    | cons t l ih => intro a hl; simp only [List.foldl]; rw [if_neg (by have := hl t (by simp); omega)]; exact ih a (fun u hu => hl u (by simp [hu]))
  exact this ts 0 h
theorem extraF_last (crowd : Int) (a : List Tr) (t : Tr) (b : List Tr) (h : t.1 ≤ crowd) (hb : ∀ u ∈ b, crowd < u.1) : extraF crowd (a ++ t :: b) = t.2 := by
  unfold extraF
  rw [List.foldl_append, List.foldl_cons, if_pos h]
  have : ∀ (l : List Tr) (a : Int), (∀ t ∈ l, crowd < t.1) → l.foldl (fun n t => if t.1 ≤ crowd then t.2 else n) a = a := by
    intro l
    induction l with
    | nil => intro a _; rfl
    | cons t l ih => intro a hl; simp only [List.foldl]; rw [if_neg (by have := hl t (by simp); omega)]; exact ih a (fun u hu => hl u (by simp [hu]))
  exact this b _ hb
theorem take_snocD {α : Type} (l : List α) (k : Nat) (d : α) (h : k < l.length) : l.take (k + 1) = l.take k ++ [l.getD k d] := by
  rw [List.take_succ_eq_append_getElem h, List.getD_eq_getElem?_getD, List.getElem?_eq_getElem h]; rfl

set_option maxHeartbeats 1000000 in
theorem rextra_any (pb : Option Addr) (nb cb : Nat) (pl : Option Addr) (nl cl : Nat) (pt : Option Addr) (nt ct : Nat) (crowd : Int) (ts : List Tr) (w : World) (hz : Hid (TiersV w pt nt ts)) :
    Calls Try.prog 19 #[tarV pb nb cb pl nl cl pt nt ct, .int .i64 crowd] w fun e w' => e = .returned (.int .i64 (extraF crowd ts)) ∧ Below w.heap.size w w' := by
  have H3 := Lib.hid hz.out.1
  have m3 := hz.out.2.1
  have h1 := Lib.hid (bel_alloc1 w (.cells #[.slice pb nb cb, .slice pl nl cl, .slice pt nt ct] 25))
  go_enter Try.func19, Try.ntmps19
  go_wp2_with fail
  go_loop [5, 6] (fun s i => ∃ (k : Nat) (n : Int), k ≤ nt ∧ i = .int .i64 k ∧ s = .int .i64 n ∧ Hid (n = extraF crowd (ts.take k))) (fun _ i => nt - (intOf i).toNat)
  case atStart => exact ⟨0, 0, by omega, rfl, rfl, Lib.hid (by simp [extraF])⟩
  case round =>
    obtain ⟨k, n, hk, rfl, rfl, hn⟩ := hrel
    by_cases hlt : k < nt
    · obtain ⟨b', off, hp, hb', hcell, hcell2⟩ := (hz.out.below h1.out).at hlt
      subst hp
      obtain ⟨⟨f, x⟩, hx⟩ : ∃ x, ts.getD k (0, 0) = x := ⟨_, rfl⟩
      rw [hx] at hcell hcell2
      dsimp only at hcell hcell2
      have HT : Hid (extraF crowd (ts.take (k + 1)) = if f ≤ crowd then x else n) := Lib.hid (by rw [take_snocD ts k (0, 0) (by rw [← H3.out]; exact hlt), extraF_snoc, hx, hn.out])
      clear hx
      by_cases hf : f ≤ crowd
      · go_wp2_with fail
        go_round
        case rel => exact ⟨k + 1, x, by omega, by go_num, rfl, Lib.hid (by rw [HT.out, if_pos hf])⟩
        case measure => simp [intOf]; omega
      · go_wp2_with fail
        go_round
        case rel => exact ⟨k + 1, n, by omega, by go_num, rfl, Lib.hid (by rw [HT.out, if_neg hf])⟩
        case measure => simp [intOf]; omega
    · go_wp2_with fail
      go_ret
      exact ⟨ret_int (by rw [hn.out, List.take_of_length_le (by have := H3.out; omega)]), h1.out⟩

abbrev It := Int × Tr
abbrev itEnc (x : It) : Array Value := #[.int .i64 x.1, .agg #[.int .i64 x.2.1, .int .i64 x.2.2]]
def revT (ts : List Tr) : List It := (List.range ts.length).map fun (k : Nat) => ((ts.length : Int) - 1 - (k : Int), ts.getD (ts.length - 1 - k) (0, 0))
theorem revT_len (ts : List Tr) : (revT ts).length = ts.length := by simp [revT]
theorem revT_get (ts : List Tr) (k : Nat) (h : k < ts.length) (d : It) : (revT ts).getD k d = ((ts.length : Int) - 1 - k, ts.getD (ts.length - 1 - k) (0, 0)) := by simp [revT, h]
theorem revT_rev (ts : List Tr) : (revT ts).map (·.2) = ts.reverse := by
  apply List.ext_getElem?
  intro k
  by_cases h : k < ts.length
  · simp [revT, h]
    rw [List.getElem?_eq_getElem (show ts.length - 1 - k < ts.length by omega)]; rfl
  · rw [List.getElem?_eq_none (by simp [revT]; omega), List.getElem?_eq_none (by simp; omega)]

set_option maxHeartbeats 400000 in
theorem backward_any (p : Option Addr) (n cap : Nat) (b : Nat) (w : World) (hb : w.heap.size = b) :
    Calls Try.prog 33 #[.slice p n cap] w
      fun e w' => e = .returned (.func (.func 38) #[] #[.pointer (some ⟨b, 0, none⟩)]) ∧ w.alloc (.cells #[.slice p n cap] 23) = w' := by
  subst hb
  go_enter Try.func33, Try.ntmps33
  go_wp2
  go_ret
  exact ⟨rfl, rfl⟩

set_option maxRecDepth 100000 in
set_option maxHeartbeats 1000000 in
theorem backward_stops (p : Option Addr) (n cap : Nat) (ts : List Tr) (m : Nat) (hm : 1 ≤ m) (b : Nat) (w : World) (hb : b < w.heap.size) (hc : w.cell? ⟨b, 0, none⟩ = some (.slice p n cap)) (hz : Hid (TiersV w p n ts)) :
    SeqStopsK Fence.wide m Try.prog 38 #[.pointer (some ⟨b, 0, none⟩)] itEnc (Below w.heap.size)
      (fun xs => xs = revT ts) (fun pre => pre <+: revT ts) n w := fun l J Jx W hW hJ hJx hY h0 => by
  have HC := Lib.hid hc; clear hc
  have HN := Lib.hid hz.out.1
  have hmx := hz.out.2.1
  have HW := Lib.hid hW; clear hW
  have c0 := (HW.out.cell (p := ⟨b, 0, none⟩) hb).trans HC.out
  refine callsIn_of_wp Try.func38 rfl trivial ?_ rfl
  simp only [Try.ntmps38, List.size_toArray, List.length_cons, List.length_nil, Nat.reduceAdd, Nat.reduceSub, Array.replicate_succ, Array.replicate_zero, List.push_toArray, List.append_toArray, List.nil_append, List.cons_append]
  gi_wp2
  clear c0
  gi_loopw [3] (fun i wr => ∃ k : Nat, k ≤ n ∧ i = .int .i64 ((n : Int) - 1 - k) ∧ Hid (Below w.heap.size w wr) ∧ Hid (J ((revT ts).take k) wr)) (fun i _ => (intOf i + 1).toNat)
  case atStart => exact ⟨0, by omega, by simp, HW, Lib.hid h0⟩
  case round =>
    obtain ⟨k, hk, rfl, HB, hj⟩ := hrel
    by_cases hlt : k < n
    · have c0 := (HB.out.cell (p := ⟨b, 0, none⟩) hb).trans HC.out
      obtain ⟨b', off, hp, hb', hcell, hcell2⟩ := (hz.out.below HB.out).at (k := n - 1 - k) (by omega)
      obtain ⟨j, hjd⟩ : ∃ j : Nat, n - 1 - k = j := ⟨_, rfl⟩
      have hji : (n : Int) - 1 - k = j := by omega
      obtain ⟨⟨f, x⟩, hx⟩ : ∃ x, ts.getD (n - 1 - k) (0, 0) = x := ⟨_, rfl⟩
      rw [hx, hjd] at hcell hcell2
      dsimp only at hcell hcell2
      have hnext : (revT ts).getD k (0, (0, 0)) = ((j : Int), (f, x)) := by rw [revT_get ts k (by rw [← HN.out]; exact hlt), ← HN.out, hx, hji]
      have HT : Hid ((revT ts).take (k + 1) = (revT ts).take k ++ [((j : Int), (f, x))]) := Lib.hid (by rw [take_snocD _ k (0, (0, 0)) (by rw [revT_len, ← HN.out]; exact hlt), hnext])
      have hjlt : j < n := by omega
      rw [hji]
      clear hnext hx hji
      subst hp
      obtain ⟨fn, tmps, assign, body, hy0, hR⟩ := hY _ ((j : Int), (f, x)) _ hj.out (by rw [List.length_take, revT_len]; omega)
      have hy : (Instr.yield l #[.int .i64 (j : Int), .agg #[.int .i64 f, .int .i64 x]]).run Try.prog wr = .ok (.round l fn tmps assign body) wr := hy0
      clear hy0
      have HJD := Lib.hid hjd; clear hjd
      gi_wp2
      refine hR.mono ?_
      rintro e W3 (⟨rfl, hJ3, hK3⟩ | ⟨rfl, hJx3⟩)
      · have HB3 := Lib.hid (HB.out.trans hK3)
        have HJ3 := Lib.hid hJ3; clear hK3 hJ3
        gi_wp2
        go_roundw
        case rel => exact ⟨k + 1, by omega, by have := HJD.out; go_num, HB3, Lib.hid (by rw [HT.out]; exact HJ3.out)⟩
        case measure => simp [intOf]
      · have HJx3 := Lib.hid hJx3; clear hJx3
        gi_wp2
        refine bodyPost_ret (results_none rfl _ _ _) rfl ?_
        exact ⟨⟨_, rfl⟩, .inr ⟨_, by rw [← HT.out]; exact List.take_prefix _ _, HJx3.out⟩⟩
    · obtain rfl : k = n := by omega
      have hneg : (k : Int) - 1 - k < 0 := by omega
      gi_wp2
      go_end0
      exact ⟨⟨_, rfl⟩, .inl ⟨_, by rw [List.take_of_length_le (by rw [revT_len, ← HN.out]; exact Nat.le_refl _)], hj.out⟩⟩
end Go.Proofs.Yticaeecfhfjjeaa
