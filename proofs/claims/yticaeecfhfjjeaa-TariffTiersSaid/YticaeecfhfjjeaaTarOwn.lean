/- Lists of ints that a call has made: what append makes of them. -/
import Derived.Test.YticaeecfhfjjeaaTarShare
import Derived.Laws.AppendOwn
namespace Go.Proofs.Yticaeecfhfjjeaa
open Go.RowKit
set_option linter.unusedVariables false

theorem info3 : (Try.prog.info? 3).map (fun i => (i.zero, i.size, i.bytes)) = some (some (.int .i64 0), 1, 8) := by kernel_rfl
abbrev ints (zs : List Int) : List Value := zs.map (Value.int .i64)
abbrev Own (w : World) (B : Nat) (v : Value) (zs : List Int) : Prop := w.ownsRow B 3 1 v zs.length (ints zs)
/-- a list that the call owns is read as a list -/
theorem Own.intsV {w : World} {B : Nat} {v : Value} {zs : List Int} (h : Own w B v zs) (hb : ∀ z ∈ zs, i64B z) : ∃ p cap, v = .slice p zs.length cap ∧ IntsV w p zs.length zs := by
  obtain ⟨h1, h2⟩ := h
  rcases h2 with ⟨rfl, h0⟩ | ⟨g, cap, cur, rfl, hBg, hg, hn, hm, hs, ht⟩
  · exact ⟨none, 0, by rw [h0], rfl, by omega, hb, .inl h0⟩
  · refine ⟨_, _, rfl, rfl, by have : maxLen ≤ 9223372036854775807 := by decide
                               omega, hb, .inr ⟨g, 0, rfl, (Array.getElem?_eq_some_iff.1 hg).1, ?_⟩⟩
    intro j hj
    have h3 : (cur.toList.take (zs.length * 1))[j]? = (ints zs)[j]? := by rw [ht]
    rw [List.getElem?_take, if_pos (by omega)] at h3
    simp only [World.cell?, hg, Nat.zero_add]
    have h4 : cur[j]? = some (.int .i64 (zs.getD j 0)) := by
      rw [← Array.getElem?_toList, h3, List.getElem?_map, List.getElem?_eq_getElem hj, List.getD_eq_getElem?_getD, List.getElem?_eq_getElem hj]; rfl
    rw [h4]; rfl
theorem own_rep {w : World} {B g L : Nat} {x : Int} (hB : B ≤ g) (hL : L ≤ 8) (hg : w.heap[g]? = some (.cells (List.replicate L (Value.int .i64 x)).toArray 3 (0, 0))) : Own w B (.slice (some ⟨g, 0, none⟩) L L) (List.replicate L x) := by
  refine ⟨by simp, .inr ⟨g, L, _, by rw [List.length_replicate], hB, hg, by simp, by unfold maxLen; omega, by simp, by simp⟩⟩
/-- what Shares returns when all is right -/
def SharesV (w : World) (L : Nat) (x r : Int) (e : Ending) (w' : World) : Prop :=
  ∃ v, e = .returned (.tuple #[v, .int .i64 r, .int .i64 0]) ∧ Own w' w.heap.size v (List.replicate L x) ∧ Below w.heap.size w w'
theorem sharesV {w w' : World} {L : Nat} {x r : Int} {e : Ending} (hL : L ≤ 8) (h : SharesOk w L x r e w') : SharesV w L x r e w' := by
  obtain ⟨g, h1, h2, h3, h4⟩ := h
  exact ⟨_, h1, own_rep h2 hL h3, h4⟩
theorem Own.below {w w' : World} {B : Nat} {v : Value} {zs : List Int} (h : Own w B v zs) (k : Below w.heap.size w w') : Own w' B v zs := by
  refine World.ownsRow.kept (row := none) h ⟨k.os, k.tape, k.output, k.size, fun i hi _ => k.block i hi⟩ ?_
  cases hv : v.ownBlock with
  | none => exact .inl rfl
  | some b => exact .inr (by simp)
theorem sum_rep (L : Nat) (x r : Int) : (List.replicate L x ++ [r]).sum = L * x + r := by
  rw [List.sum_append]
  have : ∀ L : Nat, (List.replicate L x).sum = L * x := by
    intro L
    induction L with
    | zero => simp
    | succ n ih => rw [List.replicate_succ, List.sum_cons, ih, Int.natCast_succ, Int.add_mul]; omega
  rw [this]; simp

set_option maxRecDepth 100000 in
set_option maxHeartbeats 2000000 in
theorem price_no (pb : Option Addr) (nb cb : Nat) (pl : Option Addr) (nl cl : Nat) (pt : Option Addr) (nt ct : Nat) (base leg : List Int) (ts : List Tr) (c l m E : Int) (w : World) (hz : Hid (TarV w pb nb pl nl pt nt base leg ts)) (hE : Hid (errE base leg ts c l m = E)) (h0 : E ≠ 0) :
    Calls Try.prog 10 #[tarV pb nb cb pl nl cl pt nt ct, .int .i64 c, .int .i64 l, .int .i64 m] w fun e w' => e = .returned (.tuple #[.int .i64 0, .int .i64 E]) ∧ Below w.heap.size w w' := by
  obtain ⟨i0, hi, hz0, hz1, hz2⟩ := info_parts info3
  have h1 := Lib.hid (bel_alloc1 w (.cells #[.slice pb nb cb, .slice pl nl cl, .slice pt nt ct] 25))
  go_enter Try.func10, Try.ntmps10
  go_wp2_with fail
  refine (shares_no pb nb cb pl nl cl pt nt ct base leg ts c l m E _ (Lib.hid (hz.out.below h1.out)) hE h0).mono ?_; rintro e w1 ⟨rfl, hb⟩
  have h2 := Lib.hid (belB2 (Below.refl _ w) hb); clear hb
  have hown : Hid (Own w1 w1.heap.size (.slice none 0 0) []) := Lib.hid (World.ownsRow_nil _ _ _ _)
  go_wp2_with (at_builtin; refine wpList_append_own _ rfl (.tmp 21) (.tmp 23) 22 rfl w1.heap.size 3 i0 (.int .i64 0) 1 8 Try.underlying22 hi hz0 hz1 hz2 rfl (by decide) (.slice none 0 0) 0 [] rfl (hown.out.alloc _) ⟨w1.heap.size, 0, none⟩ 1 1 [.int .i64 0] rfl rfl ?c1 ?c2 ?c3 ?c4 ?c5 ?_)
  case c1 => intro j u hj; match j, hj with | 0, hj => cases hj; simp [Addr.add]
  case c2 => intro u hu; simp at hu; subst hu; rfl
  case c3 => unfold maxLen; omega
  case c4 => omega
  case c5 => simp
  intro v w2 ho hg _
  have ho' : Own w2 w1.heap.size v [0] := ho
  obtain ⟨p, cap, rfl, hV⟩ := ho'.intsV (by intro z hz; simp at hz; subst hz; unfold i64B; omega)
  have HV := Lib.hid hV
  have h3 : Hid (Below w.heap.size w w2) := Lib.hid ((bel_al h2.out _).trans ⟨hg.os, hg.tape, hg.output, hg.size, fun i hi' => hg.block i (by have := h2.out.size; simp; omega) (by simp [Value.ownBlock])⟩)
  clear ho ho' hg hV
  go_wp2_with fail
  refine (sum_any p 1 cap [0] _ HV (Lib.hid (by intro z hz; simp at hz; subst hz; omega)) (by omega)).mono ?_; rintro e w' ⟨rfl, rfl⟩
  go_wp2_with fail
  go_ret2
  exact ⟨rfl, h3.out⟩
end Go.Proofs.Yticaeecfhfjjeaa
