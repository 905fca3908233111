/- Package chain: validNode; the iterator over the heads of beginnings. -/
import Derived.Test.YtllcgehfmkmcdaaDoorChnHd
import Derived.RangeFuncNested
import Derived.RangeFuncBound
import Derived.RangeFuncLeaves
import Derived.RangeFuncRecord
import Derived.RangeFuncCalls
import Derived.Shelf.Abstract
import Derived.Shelf.RegionOpen
import Derived.OwnWalkIn
import Derived.TacticsInMore
import Derived.LoopNIn
import Derived.LoopIn
namespace Go.Proofs.YtllcgehfmkmcdaaDoor
open Go.RowKit Go.Shelf
set_option linter.unusedVariables false
set_option linter.unusedSimpArgs false
attribute [local go_sem] Oper.semAt_some

def nodeB (n : Int) : Bool := decide (0 ≤ n) && decide (n < 24)
theorem cvalid_any (n : Int) (w : World) : Calls Tryd.prog 20 #[.int .i64 n] w fun e w' => e = .returned (.bool (nodeB n)) ∧ w = w' := by
  by_cases h0 : 0 ≤ n
  case pos =>
    by_cases h1 : n < 24
    case pos =>
      rw [show nodeB n = true by simp [nodeB, h0, h1]]
      go_enter Tryd.func20, Tryd.ntmps20
      go_wp2_with fail
      go_ret
      exact ⟨rfl, rfl⟩
    case neg =>
      rw [show nodeB n = false by unfold nodeB; simp; omega]
      go_enter Tryd.func20, Tryd.ntmps20
      go_wp2_with fail
      go_ret
      exact ⟨rfl, rfl⟩
  case neg =>
    rw [show nodeB n = false by unfold nodeB; simp; omega]
    go_enter Tryd.func20, Tryd.ntmps20
    go_wp2_with fail
    go_ret
    exact ⟨rfl, rfl⟩

theorem cvalid_is (n : Int) (v : Bool) (w : World) (h : Hid (nodeB n = v)) : Calls Tryd.prog 20 #[.int .i64 n] w fun e w' => e = .returned (.bool v) ∧ w = w' := by
  rw [← h.out]; exact cvalid_any n w
theorem grown_of_below {W W' : World} (h : Below W.heap.size W W') : W.grownBy W' none := ⟨h.os, h.tape, h.output, h.size, fun k hk _ => h.block k hk⟩
theorem fr_take {n k : Nat} (h : k < n) : (List.finRange n).take (k + 1) = (List.finRange n).take k ++ [⟨k, h⟩] := by
  rw [List.take_add_one, List.getElem?_eq_getElem (by simpa using h)]; simp
theorem fr_len (n : Nat) : (List.finRange n).length = n := by simp
set_option maxHeartbeats 1000000 in
theorem cbeg_fn (p : Option Addr) (n c b : Nat) (w : World) (hb : w.heap.size = b) :
    Calls Tryd.prog 31 #[.slice p n c] w fun e w' => e = .returned (.func (.func 36) #[] #[.pointer (some ⟨b, 0, none⟩)]) ∧ w.alloc (.cells #[.slice p n c] 22) = w' := by
  subst hb
  go_enter Tryd.func31, Tryd.ntmps31
  go_wp2_with fail
  go_ret
  exact ⟨rfl, rfl⟩
/-- what comes: the place, and the head of the links before it -/
noncomputable def bEnc (ls : List Lk) (i : Fin ls.length) : Array Value := #[.int .i64 (i.val : Int), .agg (bv (headOf (ls.take i.val))).toArray]
set_option maxRecDepth 100000 in
set_option maxHeartbeats 4000000 in
theorem begins_stops (p : Option Addr) (n c : Nat) (ls : List Lk) (m : Nat) (hm : 1 ≤ m) (b : Nat) (w : World) (hb : b < w.heap.size) (hc : w.cell? ⟨b, 0, none⟩ = some (.slice p n c)) (hs : Hid (LksV w p n c ls)) (hsm : Hid (Small ls)) (hkey : Hid (KeysAt w)) :
    SeqStopsK Fence.wide m Tryd.prog 36 #[.pointer (some ⟨b, 0, none⟩)] (bEnc ls) (Below w.heap.size)
      (fun xs => xs = List.finRange ls.length) (fun pre => pre <+: List.finRange ls.length) n w := fun l J Jx W hW hJ hJx hY h0 => by
  have HC := Lib.hid hc; clear hc
  have HN := Lib.hid hs.out.len
  have hnc := hs.out.nc
  have hcm := hs.out.cm
  have HW := Lib.hid hW; clear hW
  have HJ := Lib.hid hJ
  have hn40 : n ≤ 40 := by have := hsm.out.n; have := HN.out; omega
  have c0 := (HW.out.cell (p := ⟨b, 0, none⟩) hb).trans HC.out
  refine callsIn_of_wp Tryd.func36 rfl trivial ?_ rfl
  simp only [Tryd.ntmps36, List.size_toArray, List.length_cons, List.length_nil, Nat.reduceAdd, Nat.reduceSub, Array.replicate_succ, Array.replicate_zero, List.push_toArray, List.append_toArray, List.nil_append, List.cons_append]
  gi_wp2
  clear c0
  gi_loopw [6] (fun i wr => ∃ k : Nat, k ≤ n ∧ i = .int .i64 (k : Int) ∧ Hid (Below w.heap.size w wr) ∧ Hid (J ((List.finRange ls.length).take k) wr)) (fun i _ => n - (intOf i).toNat)
  case atStart => exact ⟨0, by omega, by simp, HW, Lib.hid h0⟩
  case round =>
    obtain ⟨k, hk, rfl, HB, hj⟩ := hrel
    by_cases hlt : k < n
    · have c0 := (HB.out.cell (p := ⟨b, 0, none⟩) hb).trans HC.out
      have HT := Lib.hid ((hs.out.below HB.out).take (i := k) (by omega))
      have hkc : k ≤ c := by omega
      have hkl : k < ls.length := by have := HN.out; omega
      obtain ⟨ds, hds⟩ : ∃ ds, headOf (ls.take k) = ds := ⟨_, rfl⟩
      have HD := Lib.hid (show IsHead (ls.take k) ds by rw [← hds]; exact headOf_is _)
      have HF := Lib.hid (fr_take hkl)
      have HE := Lib.hid (show bEnc ls ⟨k, hkl⟩ = #[.int .i64 (k : Int), .agg (bv ds).toArray] by unfold bEnc; rw [hds])
      have HL := Lib.hid (show ((List.finRange ls.length).take k).length < n by rw [List.length_take, fr_len, ← HN.out]; omega)
      clear hds
      gi_wp2_with (refine ⟨trivial, ?_⟩; gi_at_call 15; refine (callsIn_wide.2 (chead_is p k c (ls.take k) _ HT (Lib.hid (hkey.out.below HB.out)) (Lib.hid (hsm.out.take k)) ds HD)).mono ?_; rintro e W2 ⟨rfl, hb2⟩; have J2 := HJ.out _ _ _ none hj.out (grown_of_below hb2) (fun r e => by cases e); have B2 := Lib.hid (HB.out.trans (hb2.mono HB.out.size)); obtain ⟨fn, tmps, assign, body, hy0, hR⟩ := hY _ ⟨k, hkl⟩ W2 J2 HL.out; rw [HE.out] at hy0; have hy : (Instr.yield l #[.int .i64 (k : Int), .agg (bv ds).toArray]).run Tryd.prog W2 = .ok (.round l fn tmps assign body) W2 := hy0; clear hy0 hb2 J2)
      refine hR.mono ?_
      clear hR hy
      rintro e W3 (⟨rfl, hJ3, hK3⟩ | ⟨rfl, hJx3⟩)
      · have HB3 := Lib.hid (B2.out.trans hK3)
        have HJ3 := Lib.hid hJ3; clear hK3 hJ3
        gi_wp2
        go_roundw
        case rel => exact ⟨k + 1, by omega, by simp, HB3, Lib.hid (by rw [HF.out]; exact HJ3.out)⟩
        case measure => simp [intOf]; omega
      · have HJx3 := Lib.hid hJx3; clear hJx3
        gi_wp2
        refine bodyPost_ret (results_none rfl _ _ _) rfl ?_
        exact ⟨⟨_, rfl⟩, .inr ⟨_, by rw [← HF.out]; exact List.take_prefix _ _, HJx3.out⟩⟩
    · obtain rfl : k = n := by omega
      gi_wp2
      go_end0
      exact ⟨⟨_, rfl⟩, .inl ⟨_, by rw [List.take_of_length_le (by rw [fr_len, ← HN.out]; exact Nat.le_refl _)], hj.out⟩⟩
end Go.Proofs.YtllcgehfmkmcdaaDoor
