/- Lists of ints that a call of a law has made; the keys of secrets. -/
import Derived.Test.YtbmeljkdemdloaaElgArg
import Derived.Laws.AppendOwn
import Derived.Deep.RegionLaw
namespace Go.Proofs.Ytbmeljkdemdloaa
open Go.RowKit Go.Shelf
set_option linter.unusedVariables false

theorem info3 : (Try.prog.info? 3).map (fun i => (i.zero, i.size, i.bytes)) = some (some (.int .i64 0), 1, 8) := by kernel_rfl
abbrev ints (zs : List Int) : List Value := zs.map (Value.int .i64)
abbrev Own (w : World) (B : Nat) (v : Value) (zs : List Int) : Prop := w.ownsRow B 3 1 v zs.length (ints zs)
theorem Own.intsV {w : World} {B : Nat} {v : Value} {zs : List Int} (h : Own w B v zs) : ∃ p cap, v = .slice p zs.length cap ∧ IntsV w p zs.length cap zs := by
  obtain ⟨h1, h2⟩ := h
  rcases h2 with ⟨rfl, h0⟩ | ⟨g, cap, cur, rfl, hBg, hg, hn, hm, hs, ht⟩
  · exact ⟨none, 0, by rw [h0], rfl, by omega, .inl h0⟩
  · refine ⟨_, _, rfl, rfl, by have : maxLen ≤ 9223372036854775807 := by decide
                               omega, .inr ⟨g, 0, rfl, (Array.getElem?_eq_some_iff.1 hg).1, ?_⟩⟩
    intro j hj
    have h3 : (cur.toList.take (zs.length * 1))[j]? = (ints zs)[j]? := by rw [ht]
    rw [List.getElem?_take, if_pos (by omega)] at h3
    simp only [World.cell?, hg, Nat.zero_add]
    have h4 : cur[j]? = some (.int .i64 (zs.getD j 0)) := by
      rw [← Array.getElem?_toList, h3, List.getElem?_map, List.getElem?_eq_getElem hj, List.getD_eq_getElem?_getD, List.getElem?_eq_getElem hj]; rfl
    rw [h4]; rfl
theorem Own.below {w w' : World} {B : Nat} {v : Value} {zs : List Int} (h : Own w B v zs) (k : Below w.heap.size w w') : Own w' B v zs := by
  refine World.ownsRow.kept (row := none) h ⟨k.os, k.tape, k.output, k.size, fun i hi _ => k.block i hi⟩ ?_
  cases hv : v.ownBlock with
  | none => exact .inl rfl
  | some b => exact .inr (by simp)
theorem IntsV.at {w : World} {p : Option Addr} {n cap : Nat} {zs : List Int} (h : IntsV w p n cap zs) {k : Nat} (hk : k < n) : ∃ b off, p = some ⟨b, off, none⟩ ∧ b < w.heap.size ∧ w.cell? ⟨b, off + k, none⟩ = some (.int .i64 (zs.getD k 0)) := by
  obtain ⟨h1, h2, h3⟩ := h
  rcases h3 with h3 | ⟨b, off, rfl, hb, hc⟩
  · omega
  · exact ⟨b, off, rfl, hb, hc k (by omega)⟩
theorem getD_mem {α : Type} {zs : List α} {k : Nat} {d : α} (h : k < zs.length) : zs.getD k d ∈ zs := by
  rw [List.getD_eq_getElem?_getD, List.getElem?_eq_getElem h]; exact List.getElem_mem h
theorem take_snocD {α : Type} (l : List α) (k : Nat) (d : α) (h : k < l.length) : l.take (k + 1) = l.take k ++ [l.getD k d] := by
  rw [List.take_succ_eq_append_getElem h, List.getD_eq_getElem?_getD, List.getElem?_eq_getElem h]; rfl
theorem all_at {zs : List Int} {q : Int → Bool} (h : zs.all q = true) {k : Nat} (hk : k < zs.length) : q (zs.getD k 0) = true := List.all_eq_true.1 h _ (getD_mem hk)

def rightB (zs : List Int) : Bool := zs.all secB && decide (zs.length ≤ 5)

set_option maxHeartbeats 1000000 in
theorem right_any (p : Option Addr) (n cap : Nat) (zs : List Int) (w : World) (hz : Hid (IntsV w p n cap zs)) :
    Calls Try.prog 19 #[.slice p n cap] w fun e w' => e = .returned (.bool (rightB zs)) ∧ w = w' := by
  have H1 := Lib.hid hz.out.1
  have m1 := hz.out.2.1
  go_enter Try.func19, Try.ntmps19
  go_wp2_with fail
  go_loop [7] (fun i => ∃ k : Nat, k ≤ n ∧ i = .int .i64 k ∧ Hid (∀ j, j < k → secB (zs.getD j 0) = true)) (fun i => n - (intOf i).toNat)
  case atStart => exact ⟨0, by omega, rfl, Lib.hid fun j hj => by omega⟩
  case round =>
    obtain ⟨k, hk, rfl, hv⟩ := hrel
    by_cases hlt : k < n
    · obtain ⟨b', off, hp, hb', hcell⟩ := hz.out.at hlt
      subst hp
      obtain ⟨x, hx⟩ : ∃ x, zs.getD k 0 = x := ⟨_, rfl⟩
      rw [hx] at hcell
      have HX := Lib.hid hx; clear hx
      cases hq : secB x with
      | true =>
        have hv' := Lib.hid (show ∀ j, j < k + 1 → secB (zs.getD j 0) = true from fun j hj => by
          rcases Nat.lt_or_ge j k with h | h
          · exact hv.out j h
          · obtain rfl : j = k := by omega
            rw [HX.out]; exact hq)
        have HQ := Lib.hid hq; clear hq
        go_wp2_with fail
        refine (rsec_any _ _).mono ?_; rintro e w' ⟨rfl, rfl⟩
        rw [HQ.out]
        go_wp2_with fail
        go_round
        case rel => exact ⟨k + 1, by omega, by go_num, hv'⟩
        case measure => simp [intOf]; omega
      | false =>
        have HR : Hid (rightB zs = false) := Lib.hid (by
          have : zs.all secB = false := by
            rw [List.all_eq_false]; exact ⟨_, getD_mem (d := 0) (k := k) (by rw [← H1.out]; exact hlt), by rw [HX.out, hq]; simp⟩
          unfold rightB; rw [this]; rfl)
        have HQ := Lib.hid hq; clear hq
        go_wp2_with fail
        refine (rsec_any _ _).mono ?_; rintro e w' ⟨rfl, rfl⟩
        rw [HQ.out]
        go_wp2_with fail
        go_ret
        exact ⟨ret_bool HR.out.symm, rfl⟩
    · have HR : Hid (rightB zs = decide ((n : Int) ≤ 5)) := Lib.hid (by
        have : zs.all secB = true := by
          rw [List.all_eq_true]; intro x hx
          obtain ⟨j, hj, rfl⟩ := List.mem_iff_getElem.1 hx
          have := hv.out j (by have := H1.out; omega)
          rwa [List.getD_eq_getElem?_getD, List.getElem?_eq_getElem hj] at this
        unfold rightB; rw [this, ← H1.out]; simp; omega)
      go_wp2_with fail
      go_ret
      exact ⟨ret_bool HR.out.symm, rfl⟩

/-- what keys returns for right secrets -/
def KeysV (w : World) (zs : List Int) (e : Ending) (w' : World) : Prop :=
  ∃ v, e = .returned (.tuple #[v, .int .i64 (joinZ (zs.map pubZ)), .bool true]) ∧ Below w.heap.size w w'
theorem pub_el {s : Int} (h : secB s = true) : elB (pubZ s) = true := by unfold pubZ; rw [if_pos h]; exact powZ_el elB_4 _
theorem pubs_el {zs : List Int} (h : zs.all secB = true) : (zs.map pubZ).all elB = true := by
  rw [List.all_eq_true]; intro x hx
  obtain ⟨s, hs, rfl⟩ := List.mem_map.1 hx
  exact pub_el (List.all_eq_true.1 h s hs)

set_option maxRecDepth 100000 in
set_option maxHeartbeats 2000000 in
theorem keys_any (p : Option Addr) (n cap : Nat) (zs : List Int) (w : World) (hz : Hid (IntsV w p n cap zs)) (hr : Hid (zs.all secB = true)) (h5 : n ≤ 5) :
    Calls Try.prog 21 #[.slice p n cap] w (KeysV w zs) := by
  obtain ⟨i0, hi, hz0, hz1, hz2⟩ := info_parts info3
  have H1 := Lib.hid hz.out.1
  have m1 := hz.out.2.1
  have HO : Hid (Own w w.heap.size (.slice none 0 0) ((zs.take 0).map pubZ)) := Lib.hid (by simpa [Own, ints] using World.ownsRow_nil w w.heap.size 3 1)
  go_enter Try.func21, Try.ntmps21
  go_wp2_with fail
  go_loopw [2, 12] (fun l i wr => ∃ (k : Nat) (v : Value), k ≤ n ∧ i = .int .i64 k ∧ v = l ∧ Hid (Own wr w.heap.size v ((zs.take k).map pubZ)) ∧ Hid (Below w.heap.size w wr)) (fun _ i _ => n - (intOf i).toNat)
  case atStart => exact ⟨0, _, by omega, rfl, rfl, HO, Lib.hid (Below.refl _ _)⟩
  case round =>
    obtain ⟨k, v, hk, rfl, rfl, HOv, HB⟩ := hrel
    by_cases hlt : k < n
    · obtain ⟨b', off, hp, hb', hcell⟩ := (hz.out.below HB.out).at hlt
      subst hp
      have hs := Lib.hid (all_at hr.out (k := k) (by rw [← H1.out]; exact hlt))
      have HT := Lib.hid (take_snocD zs k 0 (by rw [← H1.out]; exact hlt))
      obtain ⟨s, hx⟩ : ∃ x, zs.getD k 0 = x := ⟨_, rfl⟩
      rw [hx] at hcell hs HT
      clear hx
      obtain ⟨q, HQ⟩ : ∃ q, Hid (pubZ s = q) := ⟨_, Lib.hid rfl⟩
      have HE : Hid (pubE s = 0) := Lib.hid (by unfold pubE; rw [if_pos hs.out])
      have HLL : Hid (((zs.take k).map pubZ).length ≤ 5) := Lib.hid (by simp; omega)
      go_wp2_with fail
      refine (public_c s q 0 _ HQ.out HE.out).mono ?_; rintro e w2 ⟨rfl, hb⟩
      have HO2 := Lib.hid (HOv.out.below hb)
      have HB2 := Lib.hid (bel_trans HB.out hb); clear hb hcell hb'
      go_wp2_with (at_builtin; refine wpList_append_own _ rfl (.tmp 23) (.tmp 25) 22 rfl w.heap.size 3 i0 (.int .i64 0) 1 8 Try.underlying22 hi hz0 hz1 hz2 rfl (by decide) v ((zs.take k).map pubZ).length (ints ((zs.take k).map pubZ)) rfl (HO2.out.alloc _) ⟨w2.heap.size, 0, none⟩ 1 1 [.int .i64 q] rfl rfl ?c1 ?c2 ?c3 ?c4 ?c5 ?_)
      case c1 => intro j u hj; match j, hj with | 0, hj => cases hj; simp [Addr.add]
      case c2 => intro u hu; simp at hu; subst hu; rfl
      case c3 => have := HLL.out; unfold maxLen; omega
      case c4 => have := HLL.out; omega
      case c5 => have := HB2.out.size; simp; omega
      intro v2 w3 ho hg _
      have HO3 : Hid (Own w3 w.heap.size v2 ((zs.take (k + 1)).map pubZ)) := Lib.hid (by
        rw [HT.out, List.map_append]; unfold Own; simpa [ints, HQ.out] using ho)
      have HB3 : Hid (Below w.heap.size w w3) := Lib.hid ((HB2.out.alloc HB2.out.size _).trans ⟨hg.os, hg.tape, hg.output, hg.size, fun i hi' => hg.block i (by have := HB2.out.size; simp; omega) (by
        intro e
        have := (World.ownsRow.lt HO2.out) i e.symm
        omega)⟩)
      clear ho hg
      go_wp2_with fail
      go_roundw
      case rel => exact ⟨k + 1, v2, by omega, by go_num, rfl, HO3, HB3⟩
      case measure => simp [intOf]; omega
    · obtain rfl : k = n := by omega
      have hown := HOv.out
      rw [List.take_of_length_le (by have := H1.out; omega)] at hown
      obtain ⟨q, cq, rfl, hV⟩ := hown.intsV
      have HV := Lib.hid hV
      have HJ : Hid (joinE (zs.map pubZ) = 0) := Lib.hid (by unfold joinE; rw [if_pos (pubs_el hr.out)])
      obtain ⟨J, HJZ⟩ : ∃ J, Hid (joinZ (zs.map pubZ) = J) := ⟨_, Lib.hid rfl⟩
      obtain ⟨N, HN⟩ : ∃ N, Hid ((zs.map pubZ).length = N) := ⟨_, Lib.hid rfl⟩
      rw [HN.out] at HV ⊢
      clear hown hV HOv
      go_wp2_with fail
      refine (joinV_any q N cq (zs.map pubZ) _ HV.out).mono ?_; rintro e w2 ⟨rfl, hb⟩
      rw [HJ.out, HJZ.out]
      have HB2 := Lib.hid (bel_trans HB.out hb); clear hb
      go_wp2_with fail
      go_ret3
      exact ⟨.slice q N cq, by rw [HJZ.out]; rfl, HB2.out⟩
end Go.Proofs.Ytbmeljkdemdloaa
