/- Lists of ints that a law appends to. Receipts: a letter that is stripped of one secret after another. Receipts come back: the line of secrets. Receipts come back: no letter is made. Receipts come back: the letter is stripped and read. -/
import Derived.Laws.AppendOwn
import Derived.Deep.RegionLaw
import Derived.Test.YtpjobllfiimdkaaDoorElgZE
import Derived.Test.YtpjobllfiimdkaaDoorRecSan
import Derived.Test.YtpjobllfiimdkaaDoorRecZA
namespace Go.Proofs.YtpjobllfiimdkaaDoor
open Go.RowKit Go.Shelf
set_option linter.unusedVariables false

/-- a slice of ints: what it holds, wherever it lies -/
def IntsV (w : World) (p : Option Addr) (n cap : Nat) (zs : List Int) : Prop :=
  n = zs.length ∧ n ≤ 9223372036854775807 ∧ (n = 0 ∨ ∃ b off, p = some ⟨b, off, none⟩ ∧ b < w.heap.size ∧ IntsAt w b off zs)
theorem IntsV.below {w w' : World} {p : Option Addr} {n cap : Nat} {zs : List Int} (h : IntsV w p n cap zs) (k : Below w.heap.size w w') : IntsV w' p n cap zs := by
  obtain ⟨h1, h2, h3⟩ := h
  refine ⟨h1, h2, ?_⟩
  rcases h3 with h3 | ⟨b, off, rfl, hb, hc⟩
  · exact .inl h3
  · exact .inr ⟨b, off, rfl, Nat.lt_of_lt_of_le hb k.size, hc.below k hb⟩

set_option maxHeartbeats 400000 in
theorem foldB_none (p : Option Addr) (cap : Nat) (w : World) :
    Calls Tryd.prog 20 #[.slice p 0 cap, .bool true, .func (.func 21) #[] #[]] w fun e w' => e = .returned (.bool true) ∧ w = w' := by
  go_enter Tryd.func20, Tryd.ntmps20
  go_wp2
  go_loop [1, 11] (fun s i => s = .bool true ∧ i = .int .i64 0) (fun _ _ => 0)
  case atStart => exact ⟨rfl, rfl⟩
  case round =>
    obtain ⟨rfl, rfl⟩ := hrel
    go_wp2
    go_ret
    exact ⟨rfl, rfl⟩
set_option maxHeartbeats 400000 in
theorem foldI_none (p : Option Addr) (cap : Nat) (w : World) :
    Calls Tryd.prog 23 #[.slice p 0 cap, .int .i64 1, .func (.func 24) #[] #[]] w fun e w' => e = .returned (.int .i64 1) ∧ w = w' := by
  go_enter Tryd.func23, Tryd.ntmps23
  go_wp2
  go_loop [1, 11] (fun s i => s = .int .i64 1 ∧ i = .int .i64 0) (fun _ _ => 0)
  case atStart => exact ⟨rfl, rfl⟩
  case round =>
    obtain ⟨rfl, rfl⟩ := hrel
    go_wp2
    go_ret
    exact ⟨rfl, rfl⟩
set_option maxHeartbeats 400000 in
theorem join_none (p : Option Addr) (cap : Nat) (w : World) :
    Calls Tryd.prog 8 #[.slice p 0 cap] w fun e w' => e = .returned (.tuple #[.int .i64 1, .int .i64 0]) ∧ w = w' := by
  go_enter Tryd.func8, Tryd.ntmps8
  go_wp2_with fail
  refine (foldB_none _ _ _).mono ?_; rintro e w' ⟨rfl, rfl⟩
  go_wp2_with fail
  refine (foldI_none _ _ _).mono ?_; rintro e w' ⟨rfl, rfl⟩
  go_wp2_with fail
  go_ret2
  exact ⟨rfl, rfl⟩

theorem nil_of_len {zs : List Int} {n : Nat} (h : n = zs.length) (h0 : n = 0) : zs = [] := List.length_eq_zero_iff.1 (by omega)
theorem joinV_any (p : Option Addr) (n cap : Nat) (zs : List Int) (w : World) (h : IntsV w p n cap zs) :
    Calls Tryd.prog 8 #[.slice p n cap] w fun e w' => e = .returned (.tuple #[.int .i64 (joinZ zs), .int .i64 (joinE zs)]) ∧ Below w.heap.size w w' := by
  obtain ⟨h1, h2, h3⟩ := h
  by_cases h0 : n = 0
  · obtain rfl := nil_of_len h1 h0
    subst h0
    exact (join_none p cap w).mono fun e w' h => ⟨h.1, h.2 ▸ Below.refl _ _⟩
  · rcases h3 with h3 | ⟨b, off, rfl, hb, hc⟩
    · exact absurd h3 h0
    · exact join_any b off n cap zs w h1 h2 hc hb

theorem foldl_el : ∀ (zs : List Int) (a : Int), elB a = true → zs.all elB = true → elB (zs.foldl mulZ a) = true
  | [], a, h, _ => h
  | z :: zs, a, h, hz => by
    simp only [List.all_cons, Bool.and_eq_true] at hz
    exact foldl_el zs _ (mulZ_el h hz.1) hz.2
end Go.Proofs.YtpjobllfiimdkaaDoor
namespace Go.Proofs.YtpjobllfiimdkaaDoor
open Go.RowKit Go.Shelf
set_option linter.unusedVariables false

theorem public_c (s x E : Int) (w : World) (h : pubZ s = x) (k : pubE s = E) :
    Calls Tryd.prog 7 #[.int .i64 s] w fun e w' => e = .returned (.tuple #[.int .i64 x, .int .i64 E]) ∧ Below w.heap.size w w' := by
  rw [← h, ← k]; exact public_any s w
end Go.Proofs.YtpjobllfiimdkaaDoor
namespace Go.Proofs.YtpjobllfiimdkaaDoor
open Go.RowKit Go.Shelf
set_option linter.unusedVariables false

theorem info3 : (Tryd.prog.info? 3).map (fun i => (i.zero, i.size, i.bytes)) = some (some (.int .i64 0), 1, 8) := by kernel_rfl
abbrev ints (zs : List Int) : List Value := zs.map (Value.int .i64)
abbrev Own (w : World) (B : Nat) (v : Value) (zs : List Int) : Prop := w.ownsRow B 3 1 v zs.length (ints zs)
theorem Own.intsV {w : World} {B : Nat} {v : Value} {zs : List Int} (h : Own w B v zs) : ∃ p cap, v = .slice p zs.length cap ∧ IntsV w p zs.length cap zs := by
  obtain ⟨h1, h2⟩ := h
  rcases h2 with ⟨rfl, h0⟩ | ⟨g, cap, cur, rfl, hBg, hg, hn, hm, hs, ht⟩
  · exact ⟨none, 0, by rw [h0], rfl, by omega, .inl h0⟩
  · refine ⟨_, _, rfl, rfl, by have : maxLen ≤ 9223372036854775807 := by decide
                               omega, .inr ⟨g, 0, rfl, (Array.getElem?_eq_some_iff.1 hg).1, ?_⟩⟩
    intro j hj
    have h3 : (cur.toList.take (zs.length * 1))[j]? = (ints zs)[j]? := by rw [ht]
    rw [List.getElem?_take, if_pos (by omega)] at h3
    simp only [World.cell?, hg, Nat.zero_add]
    have h4 : cur[j]? = some (.int .i64 (zs.getD j 0)) := by
      rw [← Array.getElem?_toList, h3, List.getElem?_map, List.getElem?_eq_getElem hj, List.getD_eq_getElem?_getD, List.getElem?_eq_getElem hj]; rfl
    rw [h4]; rfl
theorem Own.below {w w' : World} {B : Nat} {v : Value} {zs : List Int} (h : Own w B v zs) (k : Below w.heap.size w w') : Own w' B v zs := by
  refine World.ownsRow.kept (row := none) h ⟨k.os, k.tape, k.output, k.size, fun i hi _ => k.block i hi⟩ ?_
  cases hv : v.ownBlock with
  | none => exact .inl rfl
  | some b => exact .inr (by simp)
theorem IntsV.at {w : World} {p : Option Addr} {n cap : Nat} {zs : List Int} (h : IntsV w p n cap zs) {k : Nat} (hk : k < n) : ∃ b off, p = some ⟨b, off, none⟩ ∧ b < w.heap.size ∧ w.cell? ⟨b, off + k, none⟩ = some (.int .i64 (zs.getD k 0)) := by
  obtain ⟨h1, h2, h3⟩ := h
  rcases h3 with h3 | ⟨b, off, rfl, hb, hc⟩
  · omega
  · exact ⟨b, off, rfl, hb, hc k (by omega)⟩
theorem getD_mem {α : Type} {zs : List α} {k : Nat} {d : α} (h : k < zs.length) : zs.getD k d ∈ zs := by
  rw [List.getD_eq_getElem?_getD, List.getElem?_eq_getElem h]; exact List.getElem_mem h
theorem take_snocD {α : Type} (l : List α) (k : Nat) (d : α) (h : k < l.length) : l.take (k + 1) = l.take k ++ [l.getD k d] := by
  rw [List.take_succ_eq_append_getElem h, List.getD_eq_getElem?_getD, List.getElem?_eq_getElem h]; rfl
theorem all_at {zs : List Int} {q : Int → Bool} (h : zs.all q = true) {k : Nat} (hk : k < zs.length) : q (zs.getD k 0) = true := List.all_eq_true.1 h _ (getD_mem hk)

theorem pub_el {s : Int} (h : secB s = true) : elB (pubZ s) = true := by unfold pubZ; rw [if_pos h]; exact powZ_el elB_4 _
theorem pubs_el {zs : List Int} (h : zs.all secB = true) : (zs.map pubZ).all elB = true := by
  rw [List.all_eq_true]; intro x hx
  obtain ⟨s, hs, rfl⟩ := List.mem_map.1 hx
  exact pub_el (List.all_eq_true.1 h s hs)

end Go.Proofs.YtpjobllfiimdkaaDoor
namespace Go.Proofs.YtpjobllfiimdkaaDoor
open Go.ChangeShapes Go.WideShapes Go.ChangeAt Go.RowKit Go.Shelf
set_option linter.unusedVariables false

end Go.Proofs.YtpjobllfiimdkaaDoor
namespace Go.Proofs.YtpjobllfiimdkaaDoor
open Go.RowKit
set_option linter.unusedVariables false
set_option linter.unusedSimpArgs false

theorem joinP_foldl (zs : List Int) (h : zs.all secB = true) : ∀ s : Int, (zs.map pubZ).foldl mulZ (powZ 4 s) = powZ 4 (s + zs.sum) := by
  induction zs with
  | nil => intro s; rw [List.map_nil, List.foldl_nil, List.sum_nil, Int.add_zero]
  | cons x zs ih =>
    intro s
    rw [List.all_cons, Bool.and_eq_true] at h
    have e : pubZ x = powZ 4 x := by unfold pubZ; rw [if_pos h.1]
    rw [List.map_cons, List.foldl_cons, e, powZ_add elB_4, ih h.2, List.sum_cons, Int.add_assoc]
/-- the key of all secrets is the key of their sum -/
theorem join_pow {zs : List Int} (h : zs.all secB = true) : joinZ (zs.map pubZ) = powZ 4 zs.sum := by
  unfold joinZ
  rw [if_pos (pubs_el h)]
  have h1 := joinP_foldl zs h 0
  rw [powZ_zero elB_4, Int.zero_add] at h1
  exact h1
/-- a cipher that is still sealed for the sum of some secrets -/
structure Lft (σ e t a b : Int) : Prop where
  ha : powZ 4 t = a
  hb : mulZ e (powZ 4 (σ * t)) = b
theorem Lft.of_cip {σ e t a b : Int} (h : IsCip (powZ 4 σ) e t a b) : Lft σ e t a b := ⟨h.ha, by rw [← h.hb, powZ_mul elB_4]⟩
theorem Lft.el {σ e t a b : Int} (he : elB e = true) (h : Lft σ e t a b) : elB a = true ∧ elB b = true := by
  rw [← h.ha, ← h.hb]; exact ⟨powZ_el elB_4 _, mulZ_el he (powZ_el elB_4 _)⟩
theorem Lft.strip {σ e t a b : Int} (s : Int) (he : elB e = true) (h : Lft σ e t a b) : Lft (σ - s) e t a (mulZ b (powZ a (-s))) := by
  refine ⟨h.ha, ?_⟩
  rw [← h.hb, ← h.ha, strip_alg he, show σ * t + t * (-s) = (σ - s) * t by rw [Int.sub_mul, Int.mul_neg, Int.mul_comm t s]; omega]
theorem Lft.bare {e t a b : Int} (he : elB e = true) (h : Lft 0 e t a b) : b = e := by
  rw [← h.hb, Int.zero_mul, powZ_zero elB_4, mulZ_one_r he]
theorem sum_take {zs : List Int} {k : Nat} (h : k < zs.length) : (zs.take (k + 1)).sum = (zs.take k).sum + zs.getD k 0 := by
  rw [take_snocD zs k 0 h, List.sum_append]; simp
end Go.Proofs.YtpjobllfiimdkaaDoor
namespace Go.Proofs.YtpjobllfiimdkaaDoor
open Go.ChangeShapes Go.WideShapes Go.ChangeAt Go.RowKit Go.WideElems Go.Shelf
set_option linter.unusedVariables false
set_option linter.unusedSimpArgs false

set_option maxRecDepth 100000 in
set_option maxHeartbeats 8000000 in
theorem back_long (sec a b c : Int) (p : Option Addr) (n cap : Nat) (zs : List Int) (alias nonce r0 r1 r2 : Int) (w : World) (hk : Hid (KeysAt w)) (hz : Hid (IntsV w p n cap zs)) (h4 : 4 < n) :
    Calls Tryd.prog 3 #[.int .i64 sec, .agg #[.int .i64 a, .int .i64 b, .int .i64 c], .slice p n cap, .int .i64 alias, .int .i64 nonce, .agg #[.int .i64 r0, .int .i64 r1, .int .i64 r2]] w fun r w' => r = .returned (.bool true) ∧ Below w.heap.size w w' := by
  obtain ⟨i0, hi, hz0, hz1, hz2⟩ := info_parts info3
  have H1 := Lib.hid hz.out.1
  have m1 := hz.out.2.1
  have A0 := Lib.hid ((Blk.new w #[.int .i64 a, .int .i64 b, .int .i64 c] 23).alloc (.cells #[.int .i64 r0, .int .i64 r1, .int .i64 r2] 22))
  have R0 := Lib.hid (show Blk ((w.alloc (.cells #[.int .i64 a, .int .i64 b, .int .i64 c] 23)).alloc (.cells #[.int .i64 r0, .int .i64 r1, .int .i64 r2] 22)) (w.heap.size + 1) #[.int .i64 r0, .int .i64 r1, .int .i64 r2] 22 by have := Blk.new (w.alloc (.cells #[.int .i64 a, .int .i64 b, .int .i64 c] 23)) #[.int .i64 r0, .int .i64 r1, .int .i64 r2] 22; simpa using this)
  have B0 := Lib.hid (show Below w.heap.size w ((w.alloc (.cells #[.int .i64 a, .int .i64 b, .int .i64 c] 23)).alloc (.cells #[.int .i64 r0, .int .i64 r1, .int .i64 r2] 22)) from (bel_alloc1 w _).alloc (by simp) _)
  go_enter Tryd.func3, Tryd.ntmps3
  go_upto_region 1 with fail
  generalize World.alloc (World.alloc w _) _ = W0 at A0 R0 B0 ⊢
  have h5 : (n : Int) > 4 := by omega
  go_wp2_with (go_at_call 6; refine (sane43_any _ (Lib.hid (hk.out.below B0.out))).mono ?_; rintro r u1 ⟨rfl, hb⟩; have B1 := Lib.hid (bel_trans B0.out hb); have A1 := Lib.hid (A0.out.below hb A0.out.lt); have R1 := Lib.hid (R0.out.below hb R0.out.lt); clear hb)
  go_ret
  exact ⟨rfl, B1.out⟩
set_option maxRecDepth 100000 in
set_option maxHeartbeats 8000000 in
theorem back_bad (sec a b c : Int) (p : Option Addr) (n cap : Nat) (zs : List Int) (alias nonce r0 r1 r2 : Int) (w : World) (hk : Hid (KeysAt w)) (hz : Hid (IntsV w p n cap zs)) (h4 : n ≤ 4) (hs : Hid (zs.all secB = false)) :
    Calls Tryd.prog 3 #[.int .i64 sec, .agg #[.int .i64 a, .int .i64 b, .int .i64 c], .slice p n cap, .int .i64 alias, .int .i64 nonce, .agg #[.int .i64 r0, .int .i64 r1, .int .i64 r2]] w fun r w' => r = .returned (.bool true) ∧ Below w.heap.size w w' := by
  obtain ⟨i0, hi, hz0, hz1, hz2⟩ := info_parts info3
  have H1 := Lib.hid hz.out.1
  have m1 := hz.out.2.1
  have A0 := Lib.hid ((Blk.new w #[.int .i64 a, .int .i64 b, .int .i64 c] 23).alloc (.cells #[.int .i64 r0, .int .i64 r1, .int .i64 r2] 22))
  have R0 := Lib.hid (show Blk ((w.alloc (.cells #[.int .i64 a, .int .i64 b, .int .i64 c] 23)).alloc (.cells #[.int .i64 r0, .int .i64 r1, .int .i64 r2] 22)) (w.heap.size + 1) #[.int .i64 r0, .int .i64 r1, .int .i64 r2] 22 by have := Blk.new (w.alloc (.cells #[.int .i64 a, .int .i64 b, .int .i64 c] 23)) #[.int .i64 r0, .int .i64 r1, .int .i64 r2] 22; simpa using this)
  have B0 := Lib.hid (show Below w.heap.size w ((w.alloc (.cells #[.int .i64 a, .int .i64 b, .int .i64 c] 23)).alloc (.cells #[.int .i64 r0, .int .i64 r1, .int .i64 r2] 22)) from (bel_alloc1 w _).alloc (by simp) _)
  go_enter Tryd.func3, Tryd.ntmps3
  go_upto_region 1 with fail
  generalize World.alloc (World.alloc w _) _ = W0 at A0 R0 B0 ⊢
  have h5 : ¬ (n : Int) > 4 := by omega
  go_upto_region 7 with (go_at_call 6; refine (sane43_any _ (Lib.hid (hk.out.below B0.out))).mono ?_; rintro r u1 ⟨rfl, hb⟩; have B1 := Lib.hid (bel_trans B0.out hb); have A1 := Lib.hid (A0.out.below hb A0.out.lt); have R1 := Lib.hid (R0.out.below hb R0.out.lt); clear hb)
  have HO : Hid (Own u1 u1.heap.size (.slice none 0 0) ((zs.take 0).map pubZ)) := Lib.hid (by simpa [Own, ints] using World.ownsRow_nil u1 u1.heap.size 3 1)
  have gA := A1.out.lt
  have gR := R1.out.lt
  have Z1 := Lib.hid (hz.out.below B1.out)
  have gB := B1.out.size
  clear A0 R0 B0
  go_loopw [13, 14] (fun l i wr => ∃ (k : Nat) (v : Value), k ≤ n ∧ i = .int .i64 k ∧ v = l ∧ Hid ((zs.take k).all secB = true) ∧ Hid (Own wr u1.heap.size v ((zs.take k).map pubZ)) ∧ Hid (Below u1.heap.size u1 wr)) (fun _ i _ => n - (intOf i).toNat)
  case atStart => exact ⟨0, _, by omega, rfl, rfl, Lib.hid rfl, HO, Lib.hid (Below.refl _ _)⟩
  case round =>
    obtain ⟨k, v, hk', rfl, rfl, HP, HOv, HB⟩ := hrel
    by_cases hlt : k < n
    · obtain ⟨b', off, hp, hb', hcell⟩ := (Z1.out.below HB.out).at hlt
      subst hp
      have HT := Lib.hid (take_snocD zs k 0 (by rw [← H1.out]; exact hlt))
      obtain ⟨s, hx⟩ : ∃ x, zs.getD k 0 = x := ⟨_, rfl⟩
      rw [hx] at hcell HT
      clear hx
      cases hq : secB s with
      | true =>
        have hS := Lib.hid hq
        clear hq
        have HP2 : Hid ((zs.take (k + 1)).all secB = true) := Lib.hid (by rw [HT.out, List.all_append, HP.out]; simp [hS.out])
        obtain ⟨q, HQ⟩ : ∃ q, Hid (pubZ s = q) := ⟨_, Lib.hid rfl⟩
        have HE : Hid (pubE s = 0) := Lib.hid (by unfold pubE; rw [if_pos hS.out])
        have HLL : Hid (((zs.take k).map pubZ).length ≤ 5) := Lib.hid (by simp; omega)
        go_wp2_with (first
          | (go_at_call 7; refine (public_c s q 0 _ HQ.out HE.out).mono ?_; rintro e w2 ⟨rfl, hb⟩; have HO2 := Lib.hid (HOv.out.below hb); have HB2 := Lib.hid (bel_trans HB.out hb); clear hb hcell hb')
          | (at_builtin; refine wpList_append_own _ rfl (.tmp 51) (.tmp 53) 24 rfl u1.heap.size 3 i0 (.int .i64 0) 1 8 Tryd.underlying24 hi hz0 hz1 hz2 rfl (by decide) v ((zs.take k).map pubZ).length (ints ((zs.take k).map pubZ)) rfl (HO2.out.alloc _) ⟨w2.heap.size, 0, none⟩ 1 1 [.int .i64 q] rfl rfl ?c1 ?c2 ?c3 ?c4 ?c5 ?_))
        case c1 => intro j u hj; match j, hj with | 0, hj => cases hj; simp [Addr.add]
        case c2 => intro u hu; simp at hu; subst hu; rfl
        case c3 => have := HLL.out; unfold maxLen; omega
        case c4 => have := HLL.out; omega
        case c5 => have := HB2.out.size; simp; omega
        intro v2 w3 ho hg _
        have HO3 : Hid (Own w3 u1.heap.size v2 ((zs.take (k + 1)).map pubZ)) := Lib.hid (by
          rw [HT.out, List.map_append]; unfold Own; simpa [ints, HQ.out] using ho)
        have HB3 : Hid (Below u1.heap.size u1 w3) := Lib.hid ((HB2.out.alloc HB2.out.size _).trans ⟨hg.os, hg.tape, hg.output, hg.size, fun i hi' => hg.block i (by have := HB2.out.size; simp; omega) (by
          intro e
          have := (World.ownsRow.lt HO2.out) i e.symm
          omega)⟩)
        clear ho hg
        go_wp2_with fail
        go_roundw
        case rel => exact ⟨k + 1, v2, by omega, by go_num, rfl, HP2, HO3, HB3⟩
        case measure => simp [intOf]; omega
      | false =>
        have HE : Hid (pubE s = 110) := Lib.hid (by unfold pubE; rw [hq]; rfl)
        obtain ⟨q, HQ⟩ : ∃ q, Hid (pubZ s = q) := ⟨_, Lib.hid rfl⟩
        clear hq
        go_wp2_with (go_at_call 7; refine (public_c s q 110 _ HQ.out HE.out).mono ?_; rintro e w2 ⟨rfl, hb⟩; have HB2 := Lib.hid (bel_trans HB.out hb); clear hb)
        go_ret
        exact ⟨rfl, bel_trans B1.out HB2.out⟩
    · obtain rfl : k = n := by omega
      exfalso
      have h := HP.out
      rw [List.take_of_length_le (by have := H1.out; omega), hs.out] at h
      cases h
end Go.Proofs.YtpjobllfiimdkaaDoor
namespace Go.Proofs.YtpjobllfiimdkaaDoor
open Go.ChangeShapes Go.WideShapes Go.ChangeAt Go.RowKit Go.WideElems Go.Shelf
set_option linter.unusedVariables false
set_option linter.unusedSimpArgs false

set_option maxRecDepth 100000 in
set_option maxHeartbeats 8000000 in
theorem back_e160_110 (sec a b c : Int) (p : Option Addr) (n cap : Nat) (zs : List Int) (alias nonce r0 r1 r2 : Int) (w : World) (hk : Hid (KeysAt w)) (hz : Hid (IntsV w p n cap zs)) (h4 : n ≤ 4) (hs : Hid (zs.all secB = true)) (J : Int) (hj : Hid (joinZ (zs.map pubZ) = J)) (ml mk ma mb : Int) (ms : List Int) (hm : Hid (ms.length = 32)) (HM : Hid (∀ q : World, Below w.heap.size w q → Calls Tryd.prog 9 #[.int .i64 1, .int .i64 J, .int .i64 alias, .int .i64 nonce] q fun e w' => e = .returned (.tuple #[.agg (rtv ml mk ma mb ms).toArray, .int .i64 160]) ∧ Below q.heap.size q w')) (HR : Hid (∀ q : World, Below w.heap.size w q → Calls Tryd.prog 10 #[.int .i64 sec, .agg #[.int .i64 a, .int .i64 b, .int .i64 c], .agg (rtv ml mk ma mb ms).toArray, .agg #[.int .i64 r0, .int .i64 r1, .int .i64 r2]] q fun e w' => e = .returned (.tuple #[sealedV 0 0 0 0 0 0, .int .i64 110]) ∧ Below q.heap.size q w')) :
    Calls Tryd.prog 3 #[.int .i64 sec, .agg #[.int .i64 a, .int .i64 b, .int .i64 c], .slice p n cap, .int .i64 alias, .int .i64 nonce, .agg #[.int .i64 r0, .int .i64 r1, .int .i64 r2]] w fun r w' => r = .returned (.bool true) ∧ Below w.heap.size w w' := by
  obtain ⟨i0, hi, hz0, hz1, hz2⟩ := info_parts info3
  have H1 := Lib.hid hz.out.1
  have m1 := hz.out.2.1
  have A0 := Lib.hid ((Blk.new w #[.int .i64 a, .int .i64 b, .int .i64 c] 23).alloc (.cells #[.int .i64 r0, .int .i64 r1, .int .i64 r2] 22))
  have R0 := Lib.hid (show Blk ((w.alloc (.cells #[.int .i64 a, .int .i64 b, .int .i64 c] 23)).alloc (.cells #[.int .i64 r0, .int .i64 r1, .int .i64 r2] 22)) (w.heap.size + 1) #[.int .i64 r0, .int .i64 r1, .int .i64 r2] 22 by have := Blk.new (w.alloc (.cells #[.int .i64 a, .int .i64 b, .int .i64 c] 23)) #[.int .i64 r0, .int .i64 r1, .int .i64 r2] 22; simpa using this)
  have B0 := Lib.hid (show Below w.heap.size w ((w.alloc (.cells #[.int .i64 a, .int .i64 b, .int .i64 c] 23)).alloc (.cells #[.int .i64 r0, .int .i64 r1, .int .i64 r2] 22)) from (bel_alloc1 w _).alloc (by simp) _)
  go_enter Tryd.func3, Tryd.ntmps3
  go_upto_region 1 with fail
  generalize World.alloc (World.alloc w _) _ = W0 at A0 R0 B0 ⊢
  have h5 : ¬ (n : Int) > 4 := by omega
  go_upto_region 7 with (go_at_call 6; refine (sane43_any _ (Lib.hid (hk.out.below B0.out))).mono ?_; rintro r u1 ⟨rfl, hb⟩; have B1 := Lib.hid (bel_trans B0.out hb); have A1 := Lib.hid (A0.out.below hb A0.out.lt); have R1 := Lib.hid (R0.out.below hb R0.out.lt); clear hb)
  have HO : Hid (Own u1 u1.heap.size (.slice none 0 0) ((zs.take 0).map pubZ)) := Lib.hid (by simpa [Own, ints] using World.ownsRow_nil u1 u1.heap.size 3 1)
  have gA := A1.out.lt
  have gR := R1.out.lt
  have Z1 := Lib.hid (hz.out.below B1.out)
  have gB := B1.out.size
  clear A0 R0 B0
  go_loopw [13, 14] (fun l i wr => ∃ (k : Nat) (v : Value), k ≤ n ∧ i = .int .i64 k ∧ v = l ∧ Hid ((zs.take k).all secB = true) ∧ Hid (Own wr u1.heap.size v ((zs.take k).map pubZ)) ∧ Hid (Below u1.heap.size u1 wr)) (fun _ i _ => n - (intOf i).toNat)
  case atStart => exact ⟨0, _, by omega, rfl, rfl, Lib.hid rfl, HO, Lib.hid (Below.refl _ _)⟩
  case round =>
    obtain ⟨k, v, hk', rfl, rfl, HP, HOv, HB⟩ := hrel
    by_cases hlt : k < n
    · obtain ⟨b', off, hp, hb', hcell⟩ := (Z1.out.below HB.out).at hlt
      subst hp
      have HT := Lib.hid (take_snocD zs k 0 (by rw [← H1.out]; exact hlt))
      obtain ⟨s, hx⟩ : ∃ x, zs.getD k 0 = x := ⟨_, rfl⟩
      rw [hx] at hcell HT
      have HG := Lib.hid hx
      clear hx
      cases hq : secB s with
      | true =>
        have hS := Lib.hid hq
        clear hq
        have HP2 : Hid ((zs.take (k + 1)).all secB = true) := Lib.hid (by rw [HT.out, List.all_append, HP.out]; simp [hS.out])
        obtain ⟨q, HQ⟩ : ∃ q, Hid (pubZ s = q) := ⟨_, Lib.hid rfl⟩
        have HE : Hid (pubE s = 0) := Lib.hid (by unfold pubE; rw [if_pos hS.out])
        have HLL : Hid (((zs.take k).map pubZ).length ≤ 5) := Lib.hid (by simp; omega)
        go_wp2_with (first
          | (go_at_call 7; refine (public_c s q 0 _ HQ.out HE.out).mono ?_; rintro e w2 ⟨rfl, hb⟩; have HO2 := Lib.hid (HOv.out.below hb); have HB2 := Lib.hid (bel_trans HB.out hb); clear hb hcell hb')
          | (at_builtin; refine wpList_append_own _ rfl (.tmp 51) (.tmp 53) 24 rfl u1.heap.size 3 i0 (.int .i64 0) 1 8 Tryd.underlying24 hi hz0 hz1 hz2 rfl (by decide) v ((zs.take k).map pubZ).length (ints ((zs.take k).map pubZ)) rfl (HO2.out.alloc _) ⟨w2.heap.size, 0, none⟩ 1 1 [.int .i64 q] rfl rfl ?c1 ?c2 ?c3 ?c4 ?c5 ?_))
        case c1 => intro j u hj; match j, hj with | 0, hj => cases hj; simp [Addr.add]
        case c2 => intro u hu; simp at hu; subst hu; rfl
        case c3 => have := HLL.out; unfold maxLen; omega
        case c4 => have := HLL.out; omega
        case c5 => have := HB2.out.size; simp; omega
        intro v2 w3 ho hg _
        have HO3 : Hid (Own w3 u1.heap.size v2 ((zs.take (k + 1)).map pubZ)) := Lib.hid (by
          rw [HT.out, List.map_append]; unfold Own; simpa [ints, HQ.out] using ho)
        have HB3 : Hid (Below u1.heap.size u1 w3) := Lib.hid ((HB2.out.alloc HB2.out.size _).trans ⟨hg.os, hg.tape, hg.output, hg.size, fun i hi' => hg.block i (by have := HB2.out.size; simp; omega) (by
          intro e
          have := (World.ownsRow.lt HO2.out) i e.symm
          omega)⟩)
        clear ho hg
        go_wp2_with fail
        go_roundw
        case rel => exact ⟨k + 1, v2, by omega, by go_num, rfl, HP2, HO3, HB3⟩
        case measure => simp [intOf]; omega
      | false =>
        have hx := all_at hs.out (k := k) (by rw [← H1.out]; exact hlt)
        exact absurd hx (by rw [HG.out, hq]; simp)
    · obtain rfl : k = n := by omega
      have hown := HOv.out
      rw [List.take_of_length_le (by have := H1.out; omega)] at hown
      obtain ⟨q, cq, rfl, hV⟩ := hown.intsV
      have HV := Lib.hid hV
      have HJ : Hid (joinE (zs.map pubZ) = 0) := Lib.hid (by unfold joinE; rw [if_pos (pubs_el hs.out)])
      obtain ⟨N, HN⟩ : ∃ N, Hid ((zs.map pubZ).length = N) := ⟨_, Lib.hid rfl⟩
      rw [HN.out] at HV ⊢
      clear hown hV HOv
      have hb := HB.out
      have B2 := Lib.hid (bel_trans B1.out hb)
      have A2 := Lib.hid (A1.out.below hb A1.out.lt)
      have R2 := Lib.hid (R1.out.below hb R1.out.lt)
      clear hb
      go_wp2_with (first
        | (go_at_call 8; refine (joinV_any q N cq (zs.map pubZ) _ HV.out).mono ?_; rintro e u3 ⟨rfl, hb⟩; rw [HJ.out, hj.out]; have B3 := Lib.hid (bel_trans B2.out hb); have A3 := Lib.hid (A2.out.below hb A2.out.lt); have R3 := Lib.hid (R2.out.below hb R2.out.lt); clear hb)
        | (go_at_call 9; refine (HM.out _ B3.out).mono ?_; rintro r u4 ⟨rfl, hb⟩; have B4 := Lib.hid (bel_trans B3.out hb); have A4 := Lib.hid (A3.out.below hb A3.out.lt); have R4 := Lib.hid (R3.out.below hb R3.out.lt); clear hb)
        | (refine list_storeR rfl (.tmp 19) (.tmp 65) rfl u4.heap.size rfl ml mk ma mb ms rfl hm.out 0 0 0 0 (List.replicate 32 0) (RBlk.new u4) ?_))
      intro u5 q5 k5
      have hb := (bel_alloc1 u4 _).trans (k5.below (Nat.le_refl _))
      have X5 := Lib.hid q5
      clear q5 k5
      have B5 := Lib.hid (bel_trans B4.out hb)
      have A5 := Lib.hid (A4.out.below hb A4.out.lt)
      have R5 := Lib.hid (R4.out.below hb R4.out.lt)
      clear hb
      obtain ⟨xb, hxb⟩ : ∃ q, u4.heap.size = q := ⟨_, rfl⟩
      rw [hxb] at X5 ⊢
      clear hxb
      have a0 := A5.out.cell 0
      have a1 := A5.out.cell 1
      have a2 := A5.out.cell 2
      have r0c := R5.out.cell 0
      have r1c := R5.out.cell 1
      have r2c := R5.out.cell 2
      go_upto_region 18 with (first
        | (refine list_loadR (by rfl) (.tmp 19) rfl xb rfl ml mk ma mb ms X5.out ?_)
        | (go_at_call 10; refine (HR.out _ B5.out).mono ?_; rintro r u6 ⟨rfl, hb⟩; have B6 := Lib.hid (bel_trans B5.out hb); have A6 := Lib.hid (A5.out.below hb A5.out.lt); have R6 := Lib.hid (R5.out.below hb R5.out.lt); have X6 := Lib.hid (X5.out.bel hb); clear hb a0 a1 a2 r0c r1c r2c))
      have hb := bel_alloc1 u6 (.cells #[.int .i64 0, .int .i64 0, .int .i64 0, .int .i64 0, .int .i64 0, .int .i64 0] 39)
      have S7 := Lib.hid (Blk.new u6 #[.int .i64 0, .int .i64 0, .int .i64 0, .int .i64 0, .int .i64 0, .int .i64 0] 39)
      generalize World.alloc u6 _ = u7 at hb S7 ⊢
      have B7 := Lib.hid (bel_trans B6.out hb)
      have A7 := Lib.hid (A6.out.below hb A6.out.lt)
      have R7 := Lib.hid (R6.out.below hb R6.out.lt)
      have X7 := Lib.hid (X6.out.bel hb)
      clear hb
      generalize u6.heap.size = sb at S7 ⊢
      have s0 := S7.out.cell 0
      have s1 := S7.out.cell 1
      have s2 := S7.out.cell 2
      have s3 := S7.out.cell 3
      have s4 := S7.out.cell 4
      have s5 := S7.out.cell 5
      go_wp2_with fail
      go_ret
      exact ⟨rfl, B7.out⟩
set_option maxRecDepth 100000 in
set_option maxHeartbeats 8000000 in
theorem back_e160_430 (sec a b c : Int) (p : Option Addr) (n cap : Nat) (zs : List Int) (alias nonce r0 r1 r2 : Int) (w : World) (hk : Hid (KeysAt w)) (hz : Hid (IntsV w p n cap zs)) (h4 : n ≤ 4) (hs : Hid (zs.all secB = true)) (J : Int) (hj : Hid (joinZ (zs.map pubZ) = J)) (ml mk ma mb : Int) (ms : List Int) (hm : Hid (ms.length = 32)) (HM : Hid (∀ q : World, Below w.heap.size w q → Calls Tryd.prog 9 #[.int .i64 1, .int .i64 J, .int .i64 alias, .int .i64 nonce] q fun e w' => e = .returned (.tuple #[.agg (rtv ml mk ma mb ms).toArray, .int .i64 160]) ∧ Below q.heap.size q w')) (HR : Hid (∀ q : World, Below w.heap.size w q → Calls Tryd.prog 10 #[.int .i64 sec, .agg #[.int .i64 a, .int .i64 b, .int .i64 c], .agg (rtv ml mk ma mb ms).toArray, .agg #[.int .i64 r0, .int .i64 r1, .int .i64 r2]] q fun e w' => e = .returned (.tuple #[sealedV 0 0 0 0 0 0, .int .i64 430]) ∧ Below q.heap.size q w')) :
    Calls Tryd.prog 3 #[.int .i64 sec, .agg #[.int .i64 a, .int .i64 b, .int .i64 c], .slice p n cap, .int .i64 alias, .int .i64 nonce, .agg #[.int .i64 r0, .int .i64 r1, .int .i64 r2]] w fun r w' => r = .returned (.bool true) ∧ Below w.heap.size w w' := by
  obtain ⟨i0, hi, hz0, hz1, hz2⟩ := info_parts info3
  have H1 := Lib.hid hz.out.1
  have m1 := hz.out.2.1
  have A0 := Lib.hid ((Blk.new w #[.int .i64 a, .int .i64 b, .int .i64 c] 23).alloc (.cells #[.int .i64 r0, .int .i64 r1, .int .i64 r2] 22))
  have R0 := Lib.hid (show Blk ((w.alloc (.cells #[.int .i64 a, .int .i64 b, .int .i64 c] 23)).alloc (.cells #[.int .i64 r0, .int .i64 r1, .int .i64 r2] 22)) (w.heap.size + 1) #[.int .i64 r0, .int .i64 r1, .int .i64 r2] 22 by have := Blk.new (w.alloc (.cells #[.int .i64 a, .int .i64 b, .int .i64 c] 23)) #[.int .i64 r0, .int .i64 r1, .int .i64 r2] 22; simpa using this)
  have B0 := Lib.hid (show Below w.heap.size w ((w.alloc (.cells #[.int .i64 a, .int .i64 b, .int .i64 c] 23)).alloc (.cells #[.int .i64 r0, .int .i64 r1, .int .i64 r2] 22)) from (bel_alloc1 w _).alloc (by simp) _)
  go_enter Tryd.func3, Tryd.ntmps3
  go_upto_region 1 with fail
  generalize World.alloc (World.alloc w _) _ = W0 at A0 R0 B0 ⊢
  have h5 : ¬ (n : Int) > 4 := by omega
  go_upto_region 7 with (go_at_call 6; refine (sane43_any _ (Lib.hid (hk.out.below B0.out))).mono ?_; rintro r u1 ⟨rfl, hb⟩; have B1 := Lib.hid (bel_trans B0.out hb); have A1 := Lib.hid (A0.out.below hb A0.out.lt); have R1 := Lib.hid (R0.out.below hb R0.out.lt); clear hb)
  have HO : Hid (Own u1 u1.heap.size (.slice none 0 0) ((zs.take 0).map pubZ)) := Lib.hid (by simpa [Own, ints] using World.ownsRow_nil u1 u1.heap.size 3 1)
  have gA := A1.out.lt
  have gR := R1.out.lt
  have Z1 := Lib.hid (hz.out.below B1.out)
  have gB := B1.out.size
  clear A0 R0 B0
  go_loopw [13, 14] (fun l i wr => ∃ (k : Nat) (v : Value), k ≤ n ∧ i = .int .i64 k ∧ v = l ∧ Hid ((zs.take k).all secB = true) ∧ Hid (Own wr u1.heap.size v ((zs.take k).map pubZ)) ∧ Hid (Below u1.heap.size u1 wr)) (fun _ i _ => n - (intOf i).toNat)
  case atStart => exact ⟨0, _, by omega, rfl, rfl, Lib.hid rfl, HO, Lib.hid (Below.refl _ _)⟩
  case round =>
    obtain ⟨k, v, hk', rfl, rfl, HP, HOv, HB⟩ := hrel
    by_cases hlt : k < n
    · obtain ⟨b', off, hp, hb', hcell⟩ := (Z1.out.below HB.out).at hlt
      subst hp
      have HT := Lib.hid (take_snocD zs k 0 (by rw [← H1.out]; exact hlt))
      obtain ⟨s, hx⟩ : ∃ x, zs.getD k 0 = x := ⟨_, rfl⟩
      rw [hx] at hcell HT
      have HG := Lib.hid hx
      clear hx
      cases hq : secB s with
      | true =>
        have hS := Lib.hid hq
        clear hq
        have HP2 : Hid ((zs.take (k + 1)).all secB = true) := Lib.hid (by rw [HT.out, List.all_append, HP.out]; simp [hS.out])
        obtain ⟨q, HQ⟩ : ∃ q, Hid (pubZ s = q) := ⟨_, Lib.hid rfl⟩
        have HE : Hid (pubE s = 0) := Lib.hid (by unfold pubE; rw [if_pos hS.out])
        have HLL : Hid (((zs.take k).map pubZ).length ≤ 5) := Lib.hid (by simp; omega)
        go_wp2_with (first
          | (go_at_call 7; refine (public_c s q 0 _ HQ.out HE.out).mono ?_; rintro e w2 ⟨rfl, hb⟩; have HO2 := Lib.hid (HOv.out.below hb); have HB2 := Lib.hid (bel_trans HB.out hb); clear hb hcell hb')
          | (at_builtin; refine wpList_append_own _ rfl (.tmp 51) (.tmp 53) 24 rfl u1.heap.size 3 i0 (.int .i64 0) 1 8 Tryd.underlying24 hi hz0 hz1 hz2 rfl (by decide) v ((zs.take k).map pubZ).length (ints ((zs.take k).map pubZ)) rfl (HO2.out.alloc _) ⟨w2.heap.size, 0, none⟩ 1 1 [.int .i64 q] rfl rfl ?c1 ?c2 ?c3 ?c4 ?c5 ?_))
        case c1 => intro j u hj; match j, hj with | 0, hj => cases hj; simp [Addr.add]
        case c2 => intro u hu; simp at hu; subst hu; rfl
        case c3 => have := HLL.out; unfold maxLen; omega
        case c4 => have := HLL.out; omega
        case c5 => have := HB2.out.size; simp; omega
        intro v2 w3 ho hg _
        have HO3 : Hid (Own w3 u1.heap.size v2 ((zs.take (k + 1)).map pubZ)) := Lib.hid (by
          rw [HT.out, List.map_append]; unfold Own; simpa [ints, HQ.out] using ho)
        have HB3 : Hid (Below u1.heap.size u1 w3) := Lib.hid ((HB2.out.alloc HB2.out.size _).trans ⟨hg.os, hg.tape, hg.output, hg.size, fun i hi' => hg.block i (by have := HB2.out.size; simp; omega) (by
          intro e
          have := (World.ownsRow.lt HO2.out) i e.symm
          omega)⟩)
        clear ho hg
        go_wp2_with fail
        go_roundw
        case rel => exact ⟨k + 1, v2, by omega, by go_num, rfl, HP2, HO3, HB3⟩
        case measure => simp [intOf]; omega
      | false =>
        have hx := all_at hs.out (k := k) (by rw [← H1.out]; exact hlt)
        exact absurd hx (by rw [HG.out, hq]; simp)
    · obtain rfl : k = n := by omega
      have hown := HOv.out
      rw [List.take_of_length_le (by have := H1.out; omega)] at hown
      obtain ⟨q, cq, rfl, hV⟩ := hown.intsV
      have HV := Lib.hid hV
      have HJ : Hid (joinE (zs.map pubZ) = 0) := Lib.hid (by unfold joinE; rw [if_pos (pubs_el hs.out)])
      obtain ⟨N, HN⟩ : ∃ N, Hid ((zs.map pubZ).length = N) := ⟨_, Lib.hid rfl⟩
      rw [HN.out] at HV ⊢
      clear hown hV HOv
      have hb := HB.out
      have B2 := Lib.hid (bel_trans B1.out hb)
      have A2 := Lib.hid (A1.out.below hb A1.out.lt)
      have R2 := Lib.hid (R1.out.below hb R1.out.lt)
      clear hb
      go_wp2_with (first
        | (go_at_call 8; refine (joinV_any q N cq (zs.map pubZ) _ HV.out).mono ?_; rintro e u3 ⟨rfl, hb⟩; rw [HJ.out, hj.out]; have B3 := Lib.hid (bel_trans B2.out hb); have A3 := Lib.hid (A2.out.below hb A2.out.lt); have R3 := Lib.hid (R2.out.below hb R2.out.lt); clear hb)
        | (go_at_call 9; refine (HM.out _ B3.out).mono ?_; rintro r u4 ⟨rfl, hb⟩; have B4 := Lib.hid (bel_trans B3.out hb); have A4 := Lib.hid (A3.out.below hb A3.out.lt); have R4 := Lib.hid (R3.out.below hb R3.out.lt); clear hb)
        | (refine list_storeR rfl (.tmp 19) (.tmp 65) rfl u4.heap.size rfl ml mk ma mb ms rfl hm.out 0 0 0 0 (List.replicate 32 0) (RBlk.new u4) ?_))
      intro u5 q5 k5
      have hb := (bel_alloc1 u4 _).trans (k5.below (Nat.le_refl _))
      have X5 := Lib.hid q5
      clear q5 k5
      have B5 := Lib.hid (bel_trans B4.out hb)
      have A5 := Lib.hid (A4.out.below hb A4.out.lt)
      have R5 := Lib.hid (R4.out.below hb R4.out.lt)
      clear hb
      obtain ⟨xb, hxb⟩ : ∃ q, u4.heap.size = q := ⟨_, rfl⟩
      rw [hxb] at X5 ⊢
      clear hxb
      have a0 := A5.out.cell 0
      have a1 := A5.out.cell 1
      have a2 := A5.out.cell 2
      have r0c := R5.out.cell 0
      have r1c := R5.out.cell 1
      have r2c := R5.out.cell 2
      go_upto_region 18 with (first
        | (refine list_loadR (by rfl) (.tmp 19) rfl xb rfl ml mk ma mb ms X5.out ?_)
        | (go_at_call 10; refine (HR.out _ B5.out).mono ?_; rintro r u6 ⟨rfl, hb⟩; have B6 := Lib.hid (bel_trans B5.out hb); have A6 := Lib.hid (A5.out.below hb A5.out.lt); have R6 := Lib.hid (R5.out.below hb R5.out.lt); have X6 := Lib.hid (X5.out.bel hb); clear hb a0 a1 a2 r0c r1c r2c))
      have hb := bel_alloc1 u6 (.cells #[.int .i64 0, .int .i64 0, .int .i64 0, .int .i64 0, .int .i64 0, .int .i64 0] 39)
      have S7 := Lib.hid (Blk.new u6 #[.int .i64 0, .int .i64 0, .int .i64 0, .int .i64 0, .int .i64 0, .int .i64 0] 39)
      generalize World.alloc u6 _ = u7 at hb S7 ⊢
      have B7 := Lib.hid (bel_trans B6.out hb)
      have A7 := Lib.hid (A6.out.below hb A6.out.lt)
      have R7 := Lib.hid (R6.out.below hb R6.out.lt)
      have X7 := Lib.hid (X6.out.bel hb)
      clear hb
      generalize u6.heap.size = sb at S7 ⊢
      have s0 := S7.out.cell 0
      have s1 := S7.out.cell 1
      have s2 := S7.out.cell 2
      have s3 := S7.out.cell 3
      have s4 := S7.out.cell 4
      have s5 := S7.out.cell 5
      go_wp2_with fail
      go_ret
      exact ⟨rfl, B7.out⟩
set_option maxRecDepth 100000 in
set_option maxHeartbeats 8000000 in
theorem back_e160_160 (sec a b c : Int) (p : Option Addr) (n cap : Nat) (zs : List Int) (alias nonce r0 r1 r2 : Int) (w : World) (hk : Hid (KeysAt w)) (hz : Hid (IntsV w p n cap zs)) (h4 : n ≤ 4) (hs : Hid (zs.all secB = true)) (J : Int) (hj : Hid (joinZ (zs.map pubZ) = J)) (ml mk ma mb : Int) (ms : List Int) (hm : Hid (ms.length = 32)) (HM : Hid (∀ q : World, Below w.heap.size w q → Calls Tryd.prog 9 #[.int .i64 1, .int .i64 J, .int .i64 alias, .int .i64 nonce] q fun e w' => e = .returned (.tuple #[.agg (rtv ml mk ma mb ms).toArray, .int .i64 160]) ∧ Below q.heap.size q w')) (HR : Hid (∀ q : World, Below w.heap.size w q → Calls Tryd.prog 10 #[.int .i64 sec, .agg #[.int .i64 a, .int .i64 b, .int .i64 c], .agg (rtv ml mk ma mb ms).toArray, .agg #[.int .i64 r0, .int .i64 r1, .int .i64 r2]] q fun e w' => e = .returned (.tuple #[sealedV 0 0 0 0 0 0, .int .i64 160]) ∧ Below q.heap.size q w')) :
    Calls Tryd.prog 3 #[.int .i64 sec, .agg #[.int .i64 a, .int .i64 b, .int .i64 c], .slice p n cap, .int .i64 alias, .int .i64 nonce, .agg #[.int .i64 r0, .int .i64 r1, .int .i64 r2]] w fun r w' => r = .returned (.bool true) ∧ Below w.heap.size w w' := by
  obtain ⟨i0, hi, hz0, hz1, hz2⟩ := info_parts info3
  have H1 := Lib.hid hz.out.1
  have m1 := hz.out.2.1
  have A0 := Lib.hid ((Blk.new w #[.int .i64 a, .int .i64 b, .int .i64 c] 23).alloc (.cells #[.int .i64 r0, .int .i64 r1, .int .i64 r2] 22))
  have R0 := Lib.hid (show Blk ((w.alloc (.cells #[.int .i64 a, .int .i64 b, .int .i64 c] 23)).alloc (.cells #[.int .i64 r0, .int .i64 r1, .int .i64 r2] 22)) (w.heap.size + 1) #[.int .i64 r0, .int .i64 r1, .int .i64 r2] 22 by have := Blk.new (w.alloc (.cells #[.int .i64 a, .int .i64 b, .int .i64 c] 23)) #[.int .i64 r0, .int .i64 r1, .int .i64 r2] 22; simpa using this)
  have B0 := Lib.hid (show Below w.heap.size w ((w.alloc (.cells #[.int .i64 a, .int .i64 b, .int .i64 c] 23)).alloc (.cells #[.int .i64 r0, .int .i64 r1, .int .i64 r2] 22)) from (bel_alloc1 w _).alloc (by simp) _)
  go_enter Tryd.func3, Tryd.ntmps3
  go_upto_region 1 with fail
  generalize World.alloc (World.alloc w _) _ = W0 at A0 R0 B0 ⊢
  have h5 : ¬ (n : Int) > 4 := by omega
  go_upto_region 7 with (go_at_call 6; refine (sane43_any _ (Lib.hid (hk.out.below B0.out))).mono ?_; rintro r u1 ⟨rfl, hb⟩; have B1 := Lib.hid (bel_trans B0.out hb); have A1 := Lib.hid (A0.out.below hb A0.out.lt); have R1 := Lib.hid (R0.out.below hb R0.out.lt); clear hb)
  have HO : Hid (Own u1 u1.heap.size (.slice none 0 0) ((zs.take 0).map pubZ)) := Lib.hid (by simpa [Own, ints] using World.ownsRow_nil u1 u1.heap.size 3 1)
  have gA := A1.out.lt
  have gR := R1.out.lt
  have Z1 := Lib.hid (hz.out.below B1.out)
  have gB := B1.out.size
  clear A0 R0 B0
  go_loopw [13, 14] (fun l i wr => ∃ (k : Nat) (v : Value), k ≤ n ∧ i = .int .i64 k ∧ v = l ∧ Hid ((zs.take k).all secB = true) ∧ Hid (Own wr u1.heap.size v ((zs.take k).map pubZ)) ∧ Hid (Below u1.heap.size u1 wr)) (fun _ i _ => n - (intOf i).toNat)
  case atStart => exact ⟨0, _, by omega, rfl, rfl, Lib.hid rfl, HO, Lib.hid (Below.refl _ _)⟩
  case round =>
    obtain ⟨k, v, hk', rfl, rfl, HP, HOv, HB⟩ := hrel
    by_cases hlt : k < n
    · obtain ⟨b', off, hp, hb', hcell⟩ := (Z1.out.below HB.out).at hlt
      subst hp
      have HT := Lib.hid (take_snocD zs k 0 (by rw [← H1.out]; exact hlt))
      obtain ⟨s, hx⟩ : ∃ x, zs.getD k 0 = x := ⟨_, rfl⟩
      rw [hx] at hcell HT
      have HG := Lib.hid hx
      clear hx
      cases hq : secB s with
      | true =>
        have hS := Lib.hid hq
        clear hq
        have HP2 : Hid ((zs.take (k + 1)).all secB = true) := Lib.hid (by rw [HT.out, List.all_append, HP.out]; simp [hS.out])
        obtain ⟨q, HQ⟩ : ∃ q, Hid (pubZ s = q) := ⟨_, Lib.hid rfl⟩
        have HE : Hid (pubE s = 0) := Lib.hid (by unfold pubE; rw [if_pos hS.out])
        have HLL : Hid (((zs.take k).map pubZ).length ≤ 5) := Lib.hid (by simp; omega)
        go_wp2_with (first
          | (go_at_call 7; refine (public_c s q 0 _ HQ.out HE.out).mono ?_; rintro e w2 ⟨rfl, hb⟩; have HO2 := Lib.hid (HOv.out.below hb); have HB2 := Lib.hid (bel_trans HB.out hb); clear hb hcell hb')
          | (at_builtin; refine wpList_append_own _ rfl (.tmp 51) (.tmp 53) 24 rfl u1.heap.size 3 i0 (.int .i64 0) 1 8 Tryd.underlying24 hi hz0 hz1 hz2 rfl (by decide) v ((zs.take k).map pubZ).length (ints ((zs.take k).map pubZ)) rfl (HO2.out.alloc _) ⟨w2.heap.size, 0, none⟩ 1 1 [.int .i64 q] rfl rfl ?c1 ?c2 ?c3 ?c4 ?c5 ?_))
        case c1 => intro j u hj; match j, hj with | 0, hj => cases hj; simp [Addr.add]
        case c2 => intro u hu; simp at hu; subst hu; rfl
        case c3 => have := HLL.out; unfold maxLen; omega
        case c4 => have := HLL.out; omega
        case c5 => have := HB2.out.size; simp; omega
        intro v2 w3 ho hg _
        have HO3 : Hid (Own w3 u1.heap.size v2 ((zs.take (k + 1)).map pubZ)) := Lib.hid (by
          rw [HT.out, List.map_append]; unfold Own; simpa [ints, HQ.out] using ho)
        have HB3 : Hid (Below u1.heap.size u1 w3) := Lib.hid ((HB2.out.alloc HB2.out.size _).trans ⟨hg.os, hg.tape, hg.output, hg.size, fun i hi' => hg.block i (by have := HB2.out.size; simp; omega) (by
          intro e
          have := (World.ownsRow.lt HO2.out) i e.symm
          omega)⟩)
        clear ho hg
        go_wp2_with fail
        go_roundw
        case rel => exact ⟨k + 1, v2, by omega, by go_num, rfl, HP2, HO3, HB3⟩
        case measure => simp [intOf]; omega
      | false =>
        have hx := all_at hs.out (k := k) (by rw [← H1.out]; exact hlt)
        exact absurd hx (by rw [HG.out, hq]; simp)
    · obtain rfl : k = n := by omega
      have hown := HOv.out
      rw [List.take_of_length_le (by have := H1.out; omega)] at hown
      obtain ⟨q, cq, rfl, hV⟩ := hown.intsV
      have HV := Lib.hid hV
      have HJ : Hid (joinE (zs.map pubZ) = 0) := Lib.hid (by unfold joinE; rw [if_pos (pubs_el hs.out)])
      obtain ⟨N, HN⟩ : ∃ N, Hid ((zs.map pubZ).length = N) := ⟨_, Lib.hid rfl⟩
      rw [HN.out] at HV ⊢
      clear hown hV HOv
      have hb := HB.out
      have B2 := Lib.hid (bel_trans B1.out hb)
      have A2 := Lib.hid (A1.out.below hb A1.out.lt)
      have R2 := Lib.hid (R1.out.below hb R1.out.lt)
      clear hb
      go_wp2_with (first
        | (go_at_call 8; refine (joinV_any q N cq (zs.map pubZ) _ HV.out).mono ?_; rintro e u3 ⟨rfl, hb⟩; rw [HJ.out, hj.out]; have B3 := Lib.hid (bel_trans B2.out hb); have A3 := Lib.hid (A2.out.below hb A2.out.lt); have R3 := Lib.hid (R2.out.below hb R2.out.lt); clear hb)
        | (go_at_call 9; refine (HM.out _ B3.out).mono ?_; rintro r u4 ⟨rfl, hb⟩; have B4 := Lib.hid (bel_trans B3.out hb); have A4 := Lib.hid (A3.out.below hb A3.out.lt); have R4 := Lib.hid (R3.out.below hb R3.out.lt); clear hb)
        | (refine list_storeR rfl (.tmp 19) (.tmp 65) rfl u4.heap.size rfl ml mk ma mb ms rfl hm.out 0 0 0 0 (List.replicate 32 0) (RBlk.new u4) ?_))
      intro u5 q5 k5
      have hb := (bel_alloc1 u4 _).trans (k5.below (Nat.le_refl _))
      have X5 := Lib.hid q5
      clear q5 k5
      have B5 := Lib.hid (bel_trans B4.out hb)
      have A5 := Lib.hid (A4.out.below hb A4.out.lt)
      have R5 := Lib.hid (R4.out.below hb R4.out.lt)
      clear hb
      obtain ⟨xb, hxb⟩ : ∃ q, u4.heap.size = q := ⟨_, rfl⟩
      rw [hxb] at X5 ⊢
      clear hxb
      have a0 := A5.out.cell 0
      have a1 := A5.out.cell 1
      have a2 := A5.out.cell 2
      have r0c := R5.out.cell 0
      have r1c := R5.out.cell 1
      have r2c := R5.out.cell 2
      go_upto_region 18 with (first
        | (refine list_loadR (by rfl) (.tmp 19) rfl xb rfl ml mk ma mb ms X5.out ?_)
        | (go_at_call 10; refine (HR.out _ B5.out).mono ?_; rintro r u6 ⟨rfl, hb⟩; have B6 := Lib.hid (bel_trans B5.out hb); have A6 := Lib.hid (A5.out.below hb A5.out.lt); have R6 := Lib.hid (R5.out.below hb R5.out.lt); have X6 := Lib.hid (X5.out.bel hb); clear hb a0 a1 a2 r0c r1c r2c))
      have hb := bel_alloc1 u6 (.cells #[.int .i64 0, .int .i64 0, .int .i64 0, .int .i64 0, .int .i64 0, .int .i64 0] 39)
      have S7 := Lib.hid (Blk.new u6 #[.int .i64 0, .int .i64 0, .int .i64 0, .int .i64 0, .int .i64 0, .int .i64 0] 39)
      generalize World.alloc u6 _ = u7 at hb S7 ⊢
      have B7 := Lib.hid (bel_trans B6.out hb)
      have A7 := Lib.hid (A6.out.below hb A6.out.lt)
      have R7 := Lib.hid (R6.out.below hb R6.out.lt)
      have X7 := Lib.hid (X6.out.bel hb)
      clear hb
      generalize u6.heap.size = sb at S7 ⊢
      have s0 := S7.out.cell 0
      have s1 := S7.out.cell 1
      have s2 := S7.out.cell 2
      have s3 := S7.out.cell 3
      have s4 := S7.out.cell 4
      have s5 := S7.out.cell 5
      go_wp2_with fail
      go_ret
      exact ⟨rfl, B7.out⟩
set_option maxRecDepth 100000 in
set_option maxHeartbeats 8000000 in
theorem back_e0_110 (sec a b c : Int) (p : Option Addr) (n cap : Nat) (zs : List Int) (alias nonce r0 r1 r2 : Int) (w : World) (hk : Hid (KeysAt w)) (hz : Hid (IntsV w p n cap zs)) (h4 : n ≤ 4) (hs : Hid (zs.all secB = true)) (J : Int) (hj : Hid (joinZ (zs.map pubZ) = J)) (ml mk ma mb : Int) (ms : List Int) (hm : Hid (ms.length = 32)) (HM : Hid (∀ q : World, Below w.heap.size w q → Calls Tryd.prog 9 #[.int .i64 1, .int .i64 J, .int .i64 alias, .int .i64 nonce] q fun e w' => e = .returned (.tuple #[.agg (rtv ml mk ma mb ms).toArray, .int .i64 0]) ∧ Below q.heap.size q w')) (HR : Hid (∀ q : World, Below w.heap.size w q → Calls Tryd.prog 10 #[.int .i64 sec, .agg #[.int .i64 a, .int .i64 b, .int .i64 c], .agg (rtv ml mk ma mb ms).toArray, .agg #[.int .i64 r0, .int .i64 r1, .int .i64 r2]] q fun e w' => e = .returned (.tuple #[sealedV 0 0 0 0 0 0, .int .i64 110]) ∧ Below q.heap.size q w')) :
    Calls Tryd.prog 3 #[.int .i64 sec, .agg #[.int .i64 a, .int .i64 b, .int .i64 c], .slice p n cap, .int .i64 alias, .int .i64 nonce, .agg #[.int .i64 r0, .int .i64 r1, .int .i64 r2]] w fun r w' => r = .returned (.bool true) ∧ Below w.heap.size w w' := by
  obtain ⟨i0, hi, hz0, hz1, hz2⟩ := info_parts info3
  have H1 := Lib.hid hz.out.1
  have m1 := hz.out.2.1
  have A0 := Lib.hid ((Blk.new w #[.int .i64 a, .int .i64 b, .int .i64 c] 23).alloc (.cells #[.int .i64 r0, .int .i64 r1, .int .i64 r2] 22))
  have R0 := Lib.hid (show Blk ((w.alloc (.cells #[.int .i64 a, .int .i64 b, .int .i64 c] 23)).alloc (.cells #[.int .i64 r0, .int .i64 r1, .int .i64 r2] 22)) (w.heap.size + 1) #[.int .i64 r0, .int .i64 r1, .int .i64 r2] 22 by have := Blk.new (w.alloc (.cells #[.int .i64 a, .int .i64 b, .int .i64 c] 23)) #[.int .i64 r0, .int .i64 r1, .int .i64 r2] 22; simpa using this)
  have B0 := Lib.hid (show Below w.heap.size w ((w.alloc (.cells #[.int .i64 a, .int .i64 b, .int .i64 c] 23)).alloc (.cells #[.int .i64 r0, .int .i64 r1, .int .i64 r2] 22)) from (bel_alloc1 w _).alloc (by simp) _)
  go_enter Tryd.func3, Tryd.ntmps3
  go_upto_region 1 with fail
  generalize World.alloc (World.alloc w _) _ = W0 at A0 R0 B0 ⊢
  have h5 : ¬ (n : Int) > 4 := by omega
  go_upto_region 7 with (go_at_call 6; refine (sane43_any _ (Lib.hid (hk.out.below B0.out))).mono ?_; rintro r u1 ⟨rfl, hb⟩; have B1 := Lib.hid (bel_trans B0.out hb); have A1 := Lib.hid (A0.out.below hb A0.out.lt); have R1 := Lib.hid (R0.out.below hb R0.out.lt); clear hb)
  have HO : Hid (Own u1 u1.heap.size (.slice none 0 0) ((zs.take 0).map pubZ)) := Lib.hid (by simpa [Own, ints] using World.ownsRow_nil u1 u1.heap.size 3 1)
  have gA := A1.out.lt
  have gR := R1.out.lt
  have Z1 := Lib.hid (hz.out.below B1.out)
  have gB := B1.out.size
  clear A0 R0 B0
  go_loopw [13, 14] (fun l i wr => ∃ (k : Nat) (v : Value), k ≤ n ∧ i = .int .i64 k ∧ v = l ∧ Hid ((zs.take k).all secB = true) ∧ Hid (Own wr u1.heap.size v ((zs.take k).map pubZ)) ∧ Hid (Below u1.heap.size u1 wr)) (fun _ i _ => n - (intOf i).toNat)
  case atStart => exact ⟨0, _, by omega, rfl, rfl, Lib.hid rfl, HO, Lib.hid (Below.refl _ _)⟩
  case round =>
    obtain ⟨k, v, hk', rfl, rfl, HP, HOv, HB⟩ := hrel
    by_cases hlt : k < n
    · obtain ⟨b', off, hp, hb', hcell⟩ := (Z1.out.below HB.out).at hlt
      subst hp
      have HT := Lib.hid (take_snocD zs k 0 (by rw [← H1.out]; exact hlt))
      obtain ⟨s, hx⟩ : ∃ x, zs.getD k 0 = x := ⟨_, rfl⟩
      rw [hx] at hcell HT
      have HG := Lib.hid hx
      clear hx
      cases hq : secB s with
      | true =>
        have hS := Lib.hid hq
        clear hq
        have HP2 : Hid ((zs.take (k + 1)).all secB = true) := Lib.hid (by rw [HT.out, List.all_append, HP.out]; simp [hS.out])
        obtain ⟨q, HQ⟩ : ∃ q, Hid (pubZ s = q) := ⟨_, Lib.hid rfl⟩
        have HE : Hid (pubE s = 0) := Lib.hid (by unfold pubE; rw [if_pos hS.out])
        have HLL : Hid (((zs.take k).map pubZ).length ≤ 5) := Lib.hid (by simp; omega)
        go_wp2_with (first
          | (go_at_call 7; refine (public_c s q 0 _ HQ.out HE.out).mono ?_; rintro e w2 ⟨rfl, hb⟩; have HO2 := Lib.hid (HOv.out.below hb); have HB2 := Lib.hid (bel_trans HB.out hb); clear hb hcell hb')
          | (at_builtin; refine wpList_append_own _ rfl (.tmp 51) (.tmp 53) 24 rfl u1.heap.size 3 i0 (.int .i64 0) 1 8 Tryd.underlying24 hi hz0 hz1 hz2 rfl (by decide) v ((zs.take k).map pubZ).length (ints ((zs.take k).map pubZ)) rfl (HO2.out.alloc _) ⟨w2.heap.size, 0, none⟩ 1 1 [.int .i64 q] rfl rfl ?c1 ?c2 ?c3 ?c4 ?c5 ?_))
        case c1 => intro j u hj; match j, hj with | 0, hj => cases hj; simp [Addr.add]
        case c2 => intro u hu; simp at hu; subst hu; rfl
        case c3 => have := HLL.out; unfold maxLen; omega
        case c4 => have := HLL.out; omega
        case c5 => have := HB2.out.size; simp; omega
        intro v2 w3 ho hg _
        have HO3 : Hid (Own w3 u1.heap.size v2 ((zs.take (k + 1)).map pubZ)) := Lib.hid (by
          rw [HT.out, List.map_append]; unfold Own; simpa [ints, HQ.out] using ho)
        have HB3 : Hid (Below u1.heap.size u1 w3) := Lib.hid ((HB2.out.alloc HB2.out.size _).trans ⟨hg.os, hg.tape, hg.output, hg.size, fun i hi' => hg.block i (by have := HB2.out.size; simp; omega) (by
          intro e
          have := (World.ownsRow.lt HO2.out) i e.symm
          omega)⟩)
        clear ho hg
        go_wp2_with fail
        go_roundw
        case rel => exact ⟨k + 1, v2, by omega, by go_num, rfl, HP2, HO3, HB3⟩
        case measure => simp [intOf]; omega
      | false =>
        have hx := all_at hs.out (k := k) (by rw [← H1.out]; exact hlt)
        exact absurd hx (by rw [HG.out, hq]; simp)
    · obtain rfl : k = n := by omega
      have hown := HOv.out
      rw [List.take_of_length_le (by have := H1.out; omega)] at hown
      obtain ⟨q, cq, rfl, hV⟩ := hown.intsV
      have HV := Lib.hid hV
      have HJ : Hid (joinE (zs.map pubZ) = 0) := Lib.hid (by unfold joinE; rw [if_pos (pubs_el hs.out)])
      obtain ⟨N, HN⟩ : ∃ N, Hid ((zs.map pubZ).length = N) := ⟨_, Lib.hid rfl⟩
      rw [HN.out] at HV ⊢
      clear hown hV HOv
      have hb := HB.out
      have B2 := Lib.hid (bel_trans B1.out hb)
      have A2 := Lib.hid (A1.out.below hb A1.out.lt)
      have R2 := Lib.hid (R1.out.below hb R1.out.lt)
      clear hb
      go_wp2_with (first
        | (go_at_call 8; refine (joinV_any q N cq (zs.map pubZ) _ HV.out).mono ?_; rintro e u3 ⟨rfl, hb⟩; rw [HJ.out, hj.out]; have B3 := Lib.hid (bel_trans B2.out hb); have A3 := Lib.hid (A2.out.below hb A2.out.lt); have R3 := Lib.hid (R2.out.below hb R2.out.lt); clear hb)
        | (go_at_call 9; refine (HM.out _ B3.out).mono ?_; rintro r u4 ⟨rfl, hb⟩; have B4 := Lib.hid (bel_trans B3.out hb); have A4 := Lib.hid (A3.out.below hb A3.out.lt); have R4 := Lib.hid (R3.out.below hb R3.out.lt); clear hb)
        | (refine list_storeR rfl (.tmp 19) (.tmp 65) rfl u4.heap.size rfl ml mk ma mb ms rfl hm.out 0 0 0 0 (List.replicate 32 0) (RBlk.new u4) ?_))
      intro u5 q5 k5
      have hb := (bel_alloc1 u4 _).trans (k5.below (Nat.le_refl _))
      have X5 := Lib.hid q5
      clear q5 k5
      have B5 := Lib.hid (bel_trans B4.out hb)
      have A5 := Lib.hid (A4.out.below hb A4.out.lt)
      have R5 := Lib.hid (R4.out.below hb R4.out.lt)
      clear hb
      obtain ⟨xb, hxb⟩ : ∃ q, u4.heap.size = q := ⟨_, rfl⟩
      rw [hxb] at X5 ⊢
      clear hxb
      have a0 := A5.out.cell 0
      have a1 := A5.out.cell 1
      have a2 := A5.out.cell 2
      have r0c := R5.out.cell 0
      have r1c := R5.out.cell 1
      have r2c := R5.out.cell 2
      go_upto_region 18 with (first
        | (refine list_loadR (by rfl) (.tmp 19) rfl xb rfl ml mk ma mb ms X5.out ?_)
        | (go_at_call 10; refine (HR.out _ B5.out).mono ?_; rintro r u6 ⟨rfl, hb⟩; have B6 := Lib.hid (bel_trans B5.out hb); have A6 := Lib.hid (A5.out.below hb A5.out.lt); have R6 := Lib.hid (R5.out.below hb R5.out.lt); have X6 := Lib.hid (X5.out.bel hb); clear hb a0 a1 a2 r0c r1c r2c))
      have hb := bel_alloc1 u6 (.cells #[.int .i64 0, .int .i64 0, .int .i64 0, .int .i64 0, .int .i64 0, .int .i64 0] 39)
      have S7 := Lib.hid (Blk.new u6 #[.int .i64 0, .int .i64 0, .int .i64 0, .int .i64 0, .int .i64 0, .int .i64 0] 39)
      generalize World.alloc u6 _ = u7 at hb S7 ⊢
      have B7 := Lib.hid (bel_trans B6.out hb)
      have A7 := Lib.hid (A6.out.below hb A6.out.lt)
      have R7 := Lib.hid (R6.out.below hb R6.out.lt)
      have X7 := Lib.hid (X6.out.bel hb)
      clear hb
      generalize u6.heap.size = sb at S7 ⊢
      have s0 := S7.out.cell 0
      have s1 := S7.out.cell 1
      have s2 := S7.out.cell 2
      have s3 := S7.out.cell 3
      have s4 := S7.out.cell 4
      have s5 := S7.out.cell 5
      go_wp2_with fail
      go_ret
      exact ⟨rfl, B7.out⟩
set_option maxRecDepth 100000 in
set_option maxHeartbeats 8000000 in
theorem back_e0_430 (sec a b c : Int) (p : Option Addr) (n cap : Nat) (zs : List Int) (alias nonce r0 r1 r2 : Int) (w : World) (hk : Hid (KeysAt w)) (hz : Hid (IntsV w p n cap zs)) (h4 : n ≤ 4) (hs : Hid (zs.all secB = true)) (J : Int) (hj : Hid (joinZ (zs.map pubZ) = J)) (ml mk ma mb : Int) (ms : List Int) (hm : Hid (ms.length = 32)) (HM : Hid (∀ q : World, Below w.heap.size w q → Calls Tryd.prog 9 #[.int .i64 1, .int .i64 J, .int .i64 alias, .int .i64 nonce] q fun e w' => e = .returned (.tuple #[.agg (rtv ml mk ma mb ms).toArray, .int .i64 0]) ∧ Below q.heap.size q w')) (HR : Hid (∀ q : World, Below w.heap.size w q → Calls Tryd.prog 10 #[.int .i64 sec, .agg #[.int .i64 a, .int .i64 b, .int .i64 c], .agg (rtv ml mk ma mb ms).toArray, .agg #[.int .i64 r0, .int .i64 r1, .int .i64 r2]] q fun e w' => e = .returned (.tuple #[sealedV 0 0 0 0 0 0, .int .i64 430]) ∧ Below q.heap.size q w')) :
    Calls Tryd.prog 3 #[.int .i64 sec, .agg #[.int .i64 a, .int .i64 b, .int .i64 c], .slice p n cap, .int .i64 alias, .int .i64 nonce, .agg #[.int .i64 r0, .int .i64 r1, .int .i64 r2]] w fun r w' => r = .returned (.bool true) ∧ Below w.heap.size w w' := by
  obtain ⟨i0, hi, hz0, hz1, hz2⟩ := info_parts info3
  have H1 := Lib.hid hz.out.1
  have m1 := hz.out.2.1
  have A0 := Lib.hid ((Blk.new w #[.int .i64 a, .int .i64 b, .int .i64 c] 23).alloc (.cells #[.int .i64 r0, .int .i64 r1, .int .i64 r2] 22))
  have R0 := Lib.hid (show Blk ((w.alloc (.cells #[.int .i64 a, .int .i64 b, .int .i64 c] 23)).alloc (.cells #[.int .i64 r0, .int .i64 r1, .int .i64 r2] 22)) (w.heap.size + 1) #[.int .i64 r0, .int .i64 r1, .int .i64 r2] 22 by have := Blk.new (w.alloc (.cells #[.int .i64 a, .int .i64 b, .int .i64 c] 23)) #[.int .i64 r0, .int .i64 r1, .int .i64 r2] 22; simpa using this)
  have B0 := Lib.hid (show Below w.heap.size w ((w.alloc (.cells #[.int .i64 a, .int .i64 b, .int .i64 c] 23)).alloc (.cells #[.int .i64 r0, .int .i64 r1, .int .i64 r2] 22)) from (bel_alloc1 w _).alloc (by simp) _)
  go_enter Tryd.func3, Tryd.ntmps3
  go_upto_region 1 with fail
  generalize World.alloc (World.alloc w _) _ = W0 at A0 R0 B0 ⊢
  have h5 : ¬ (n : Int) > 4 := by omega
  go_upto_region 7 with (go_at_call 6; refine (sane43_any _ (Lib.hid (hk.out.below B0.out))).mono ?_; rintro r u1 ⟨rfl, hb⟩; have B1 := Lib.hid (bel_trans B0.out hb); have A1 := Lib.hid (A0.out.below hb A0.out.lt); have R1 := Lib.hid (R0.out.below hb R0.out.lt); clear hb)
  have HO : Hid (Own u1 u1.heap.size (.slice none 0 0) ((zs.take 0).map pubZ)) := Lib.hid (by simpa [Own, ints] using World.ownsRow_nil u1 u1.heap.size 3 1)
  have gA := A1.out.lt
  have gR := R1.out.lt
  have Z1 := Lib.hid (hz.out.below B1.out)
  have gB := B1.out.size
  clear A0 R0 B0
  go_loopw [13, 14] (fun l i wr => ∃ (k : Nat) (v : Value), k ≤ n ∧ i = .int .i64 k ∧ v = l ∧ Hid ((zs.take k).all secB = true) ∧ Hid (Own wr u1.heap.size v ((zs.take k).map pubZ)) ∧ Hid (Below u1.heap.size u1 wr)) (fun _ i _ => n - (intOf i).toNat)
  case atStart => exact ⟨0, _, by omega, rfl, rfl, Lib.hid rfl, HO, Lib.hid (Below.refl _ _)⟩
  case round =>
    obtain ⟨k, v, hk', rfl, rfl, HP, HOv, HB⟩ := hrel
    by_cases hlt : k < n
    · obtain ⟨b', off, hp, hb', hcell⟩ := (Z1.out.below HB.out).at hlt
      subst hp
      have HT := Lib.hid (take_snocD zs k 0 (by rw [← H1.out]; exact hlt))
      obtain ⟨s, hx⟩ : ∃ x, zs.getD k 0 = x := ⟨_, rfl⟩
      rw [hx] at hcell HT
      have HG := Lib.hid hx
      clear hx
      cases hq : secB s with
      | true =>
        have hS := Lib.hid hq
        clear hq
        have HP2 : Hid ((zs.take (k + 1)).all secB = true) := Lib.hid (by rw [HT.out, List.all_append, HP.out]; simp [hS.out])
        obtain ⟨q, HQ⟩ : ∃ q, Hid (pubZ s = q) := ⟨_, Lib.hid rfl⟩
        have HE : Hid (pubE s = 0) := Lib.hid (by unfold pubE; rw [if_pos hS.out])
        have HLL : Hid (((zs.take k).map pubZ).length ≤ 5) := Lib.hid (by simp; omega)
        go_wp2_with (first
          | (go_at_call 7; refine (public_c s q 0 _ HQ.out HE.out).mono ?_; rintro e w2 ⟨rfl, hb⟩; have HO2 := Lib.hid (HOv.out.below hb); have HB2 := Lib.hid (bel_trans HB.out hb); clear hb hcell hb')
          | (at_builtin; refine wpList_append_own _ rfl (.tmp 51) (.tmp 53) 24 rfl u1.heap.size 3 i0 (.int .i64 0) 1 8 Tryd.underlying24 hi hz0 hz1 hz2 rfl (by decide) v ((zs.take k).map pubZ).length (ints ((zs.take k).map pubZ)) rfl (HO2.out.alloc _) ⟨w2.heap.size, 0, none⟩ 1 1 [.int .i64 q] rfl rfl ?c1 ?c2 ?c3 ?c4 ?c5 ?_))
        case c1 => intro j u hj; match j, hj with | 0, hj => cases hj; simp [Addr.add]
        case c2 => intro u hu; simp at hu; subst hu; rfl
        case c3 => have := HLL.out; unfold maxLen; omega
        case c4 => have := HLL.out; omega
        case c5 => have := HB2.out.size; simp; omega
        intro v2 w3 ho hg _
        have HO3 : Hid (Own w3 u1.heap.size v2 ((zs.take (k + 1)).map pubZ)) := Lib.hid (by
          rw [HT.out, List.map_append]; unfold Own; simpa [ints, HQ.out] using ho)
        have HB3 : Hid (Below u1.heap.size u1 w3) := Lib.hid ((HB2.out.alloc HB2.out.size _).trans ⟨hg.os, hg.tape, hg.output, hg.size, fun i hi' => hg.block i (by have := HB2.out.size; simp; omega) (by
          intro e
          have := (World.ownsRow.lt HO2.out) i e.symm
          omega)⟩)
        clear ho hg
        go_wp2_with fail
        go_roundw
        case rel => exact ⟨k + 1, v2, by omega, by go_num, rfl, HP2, HO3, HB3⟩
        case measure => simp [intOf]; omega
      | false =>
        have hx := all_at hs.out (k := k) (by rw [← H1.out]; exact hlt)
        exact absurd hx (by rw [HG.out, hq]; simp)
    · obtain rfl : k = n := by omega
      have hown := HOv.out
      rw [List.take_of_length_le (by have := H1.out; omega)] at hown
      obtain ⟨q, cq, rfl, hV⟩ := hown.intsV
      have HV := Lib.hid hV
      have HJ : Hid (joinE (zs.map pubZ) = 0) := Lib.hid (by unfold joinE; rw [if_pos (pubs_el hs.out)])
      obtain ⟨N, HN⟩ : ∃ N, Hid ((zs.map pubZ).length = N) := ⟨_, Lib.hid rfl⟩
      rw [HN.out] at HV ⊢
      clear hown hV HOv
      have hb := HB.out
      have B2 := Lib.hid (bel_trans B1.out hb)
      have A2 := Lib.hid (A1.out.below hb A1.out.lt)
      have R2 := Lib.hid (R1.out.below hb R1.out.lt)
      clear hb
      go_wp2_with (first
        | (go_at_call 8; refine (joinV_any q N cq (zs.map pubZ) _ HV.out).mono ?_; rintro e u3 ⟨rfl, hb⟩; rw [HJ.out, hj.out]; have B3 := Lib.hid (bel_trans B2.out hb); have A3 := Lib.hid (A2.out.below hb A2.out.lt); have R3 := Lib.hid (R2.out.below hb R2.out.lt); clear hb)
        | (go_at_call 9; refine (HM.out _ B3.out).mono ?_; rintro r u4 ⟨rfl, hb⟩; have B4 := Lib.hid (bel_trans B3.out hb); have A4 := Lib.hid (A3.out.below hb A3.out.lt); have R4 := Lib.hid (R3.out.below hb R3.out.lt); clear hb)
        | (refine list_storeR rfl (.tmp 19) (.tmp 65) rfl u4.heap.size rfl ml mk ma mb ms rfl hm.out 0 0 0 0 (List.replicate 32 0) (RBlk.new u4) ?_))
      intro u5 q5 k5
      have hb := (bel_alloc1 u4 _).trans (k5.below (Nat.le_refl _))
      have X5 := Lib.hid q5
      clear q5 k5
      have B5 := Lib.hid (bel_trans B4.out hb)
      have A5 := Lib.hid (A4.out.below hb A4.out.lt)
      have R5 := Lib.hid (R4.out.below hb R4.out.lt)
      clear hb
      obtain ⟨xb, hxb⟩ : ∃ q, u4.heap.size = q := ⟨_, rfl⟩
      rw [hxb] at X5 ⊢
      clear hxb
      have a0 := A5.out.cell 0
      have a1 := A5.out.cell 1
      have a2 := A5.out.cell 2
      have r0c := R5.out.cell 0
      have r1c := R5.out.cell 1
      have r2c := R5.out.cell 2
      go_upto_region 18 with (first
        | (refine list_loadR (by rfl) (.tmp 19) rfl xb rfl ml mk ma mb ms X5.out ?_)
        | (go_at_call 10; refine (HR.out _ B5.out).mono ?_; rintro r u6 ⟨rfl, hb⟩; have B6 := Lib.hid (bel_trans B5.out hb); have A6 := Lib.hid (A5.out.below hb A5.out.lt); have R6 := Lib.hid (R5.out.below hb R5.out.lt); have X6 := Lib.hid (X5.out.bel hb); clear hb a0 a1 a2 r0c r1c r2c))
      have hb := bel_alloc1 u6 (.cells #[.int .i64 0, .int .i64 0, .int .i64 0, .int .i64 0, .int .i64 0, .int .i64 0] 39)
      have S7 := Lib.hid (Blk.new u6 #[.int .i64 0, .int .i64 0, .int .i64 0, .int .i64 0, .int .i64 0, .int .i64 0] 39)
      generalize World.alloc u6 _ = u7 at hb S7 ⊢
      have B7 := Lib.hid (bel_trans B6.out hb)
      have A7 := Lib.hid (A6.out.below hb A6.out.lt)
      have R7 := Lib.hid (R6.out.below hb R6.out.lt)
      have X7 := Lib.hid (X6.out.bel hb)
      clear hb
      generalize u6.heap.size = sb at S7 ⊢
      have s0 := S7.out.cell 0
      have s1 := S7.out.cell 1
      have s2 := S7.out.cell 2
      have s3 := S7.out.cell 3
      have s4 := S7.out.cell 4
      have s5 := S7.out.cell 5
      go_wp2_with fail
      go_ret
      exact ⟨rfl, B7.out⟩
end Go.Proofs.YtpjobllfiimdkaaDoor
namespace Go.Proofs.YtpjobllfiimdkaaDoor
open Go.ChangeShapes Go.WideShapes Go.ChangeAt Go.RowKit Go.WideElems Go.Shelf
set_option linter.unusedVariables false
set_option linter.unusedSimpArgs false

structure PubOf (s key : Int) : Prop where
  eq : powZ 4 s = key
set_option maxRecDepth 100000 in
set_option maxHeartbeats 8000000 in
theorem back_main (sec a b c : Int) (p : Option Addr) (n cap : Nat) (zs : List Int) (alias nonce r0 r1 r2 : Int) (w : World) (hk : Hid (KeysAt w)) (hz : Hid (IntsV w p n cap zs)) (h4 : n ≤ 4) (hs : Hid (zs.all secB = true)) (J : Int) (hj : Hid (joinZ (zs.map pubZ) = J)) (ml mk ma mb : Int) (ms : List Int) (hm : Hid (ms.length = 32)) (x0 x1 x2 t0 t1 t2 A B a1 b1 a2 b2 key ev sv yv zv : Int) (hx0 : Hid (elB x0 = true)) (hx1 : Hid (elB x1 = true)) (hx2 : Hid (elB x2 = true)) (L0 : Hid (Lft zs.sum x0 t0 A B)) (L1 : Hid (Lft zs.sum x1 t1 a1 b1)) (L2 : Hid (Lft zs.sum x2 t2 a2 b2)) (N0 : Hid (numZ x0 = alias)) (N1 : Hid (numZ x1 = yv)) (N2 : Hid (numZ x2 = zv)) (hsec : Hid (secB sec = true)) (KEY : PubOf sec key) (hok : Hid (∀ q ∈ intsA [a, b, c], q.ok)) (he : Hid (IntKind.i64.wrap (yv - 1) = ev)) (hss : Hid (IntKind.i64.wrap (zv - 1) = sv)) (hv : Hid (IsVer key (ltx a b c) ev sv true)) (HM : Hid (∀ q : World, Below w.heap.size w q → Calls Tryd.prog 9 #[.int .i64 1, .int .i64 J, .int .i64 alias, .int .i64 nonce] q fun e w' => e = .returned (.tuple #[.agg (rtv ml mk ma mb ms).toArray, .int .i64 0]) ∧ Below q.heap.size q w')) (HR : Hid (∀ q : World, Below w.heap.size w q → Calls Tryd.prog 10 #[.int .i64 sec, .agg #[.int .i64 a, .int .i64 b, .int .i64 c], .agg (rtv ml mk ma mb ms).toArray, .agg #[.int .i64 r0, .int .i64 r1, .int .i64 r2]] q fun e w' => e = .returned (.tuple #[sealedV A B a1 b1 a2 b2, .int .i64 0]) ∧ Below q.heap.size q w')) :
    Calls Tryd.prog 3 #[.int .i64 sec, .agg #[.int .i64 a, .int .i64 b, .int .i64 c], .slice p n cap, .int .i64 alias, .int .i64 nonce, .agg #[.int .i64 r0, .int .i64 r1, .int .i64 r2]] w fun r w' => r = .returned (.bool true) ∧ Below w.heap.size w w' := by
  obtain ⟨i0, hi, hz0, hz1, hz2⟩ := info_parts info3
  have H1 := Lib.hid hz.out.1
  have m1 := hz.out.2.1
  have A0 := Lib.hid ((Blk.new w #[.int .i64 a, .int .i64 b, .int .i64 c] 23).alloc (.cells #[.int .i64 r0, .int .i64 r1, .int .i64 r2] 22))
  have R0 := Lib.hid (show Blk ((w.alloc (.cells #[.int .i64 a, .int .i64 b, .int .i64 c] 23)).alloc (.cells #[.int .i64 r0, .int .i64 r1, .int .i64 r2] 22)) (w.heap.size + 1) #[.int .i64 r0, .int .i64 r1, .int .i64 r2] 22 by have := Blk.new (w.alloc (.cells #[.int .i64 a, .int .i64 b, .int .i64 c] 23)) #[.int .i64 r0, .int .i64 r1, .int .i64 r2] 22; simpa using this)
  have B0 := Lib.hid (show Below w.heap.size w ((w.alloc (.cells #[.int .i64 a, .int .i64 b, .int .i64 c] 23)).alloc (.cells #[.int .i64 r0, .int .i64 r1, .int .i64 r2] 22)) from (bel_alloc1 w _).alloc (by simp) _)
  go_enter Tryd.func3, Tryd.ntmps3
  go_upto_region 1 with fail
  generalize World.alloc (World.alloc w _) _ = W0 at A0 R0 B0 ⊢
  have h5 : ¬ (n : Int) > 4 := by omega
  go_upto_region 7 with (go_at_call 6; refine (sane43_any _ (Lib.hid (hk.out.below B0.out))).mono ?_; rintro r u1 ⟨rfl, hb⟩; have B1 := Lib.hid (bel_trans B0.out hb); have A1 := Lib.hid (A0.out.below hb A0.out.lt); have R1 := Lib.hid (R0.out.below hb R0.out.lt); clear hb)
  have HO : Hid (Own u1 u1.heap.size (.slice none 0 0) ((zs.take 0).map pubZ)) := Lib.hid (by simpa [Own, ints] using World.ownsRow_nil u1 u1.heap.size 3 1)
  have gA := A1.out.lt
  have gR := R1.out.lt
  have Z1 := Lib.hid (hz.out.below B1.out)
  have gB := B1.out.size
  clear A0 R0 B0
  go_loopw [13, 14] (fun l i wr => ∃ (k : Nat) (v : Value), k ≤ n ∧ i = .int .i64 k ∧ v = l ∧ Hid ((zs.take k).all secB = true) ∧ Hid (Own wr u1.heap.size v ((zs.take k).map pubZ)) ∧ Hid (Below u1.heap.size u1 wr)) (fun _ i _ => n - (intOf i).toNat)
  case atStart => exact ⟨0, _, by omega, rfl, rfl, Lib.hid rfl, HO, Lib.hid (Below.refl _ _)⟩
  case round =>
    obtain ⟨k, v, hk', rfl, rfl, HP, HOv, HB⟩ := hrel
    by_cases hlt : k < n
    · obtain ⟨b', off, hp, hb', hcell⟩ := (Z1.out.below HB.out).at hlt
      subst hp
      have HT := Lib.hid (take_snocD zs k 0 (by rw [← H1.out]; exact hlt))
      obtain ⟨s, hx⟩ : ∃ x, zs.getD k 0 = x := ⟨_, rfl⟩
      rw [hx] at hcell HT
      have HG := Lib.hid hx
      clear hx
      cases hq : secB s with
      | true =>
        have hS := Lib.hid hq
        clear hq
        have HP2 : Hid ((zs.take (k + 1)).all secB = true) := Lib.hid (by rw [HT.out, List.all_append, HP.out]; simp [hS.out])
        obtain ⟨q, HQ⟩ : ∃ q, Hid (pubZ s = q) := ⟨_, Lib.hid rfl⟩
        have HE : Hid (pubE s = 0) := Lib.hid (by unfold pubE; rw [if_pos hS.out])
        have HLL : Hid (((zs.take k).map pubZ).length ≤ 5) := Lib.hid (by simp; omega)
        go_wp2_with (first
          | (go_at_call 7; refine (public_c s q 0 _ HQ.out HE.out).mono ?_; rintro e w2 ⟨rfl, hb⟩; have HO2 := Lib.hid (HOv.out.below hb); have HB2 := Lib.hid (bel_trans HB.out hb); clear hb hcell hb')
          | (at_builtin; refine wpList_append_own _ rfl (.tmp 51) (.tmp 53) 24 rfl u1.heap.size 3 i0 (.int .i64 0) 1 8 Tryd.underlying24 hi hz0 hz1 hz2 rfl (by decide) v ((zs.take k).map pubZ).length (ints ((zs.take k).map pubZ)) rfl (HO2.out.alloc _) ⟨w2.heap.size, 0, none⟩ 1 1 [.int .i64 q] rfl rfl ?c1 ?c2 ?c3 ?c4 ?c5 ?_))
        case c1 => intro j u hj; match j, hj with | 0, hj => cases hj; simp [Addr.add]
        case c2 => intro u hu; simp at hu; subst hu; rfl
        case c3 => have := HLL.out; unfold maxLen; omega
        case c4 => have := HLL.out; omega
        case c5 => have := HB2.out.size; simp; omega
        intro v2 w3 ho hg _
        have HO3 : Hid (Own w3 u1.heap.size v2 ((zs.take (k + 1)).map pubZ)) := Lib.hid (by
          rw [HT.out, List.map_append]; unfold Own; simpa [ints, HQ.out] using ho)
        have HB3 : Hid (Below u1.heap.size u1 w3) := Lib.hid ((HB2.out.alloc HB2.out.size _).trans ⟨hg.os, hg.tape, hg.output, hg.size, fun i hi' => hg.block i (by have := HB2.out.size; simp; omega) (by
          intro e
          have := (World.ownsRow.lt HO2.out) i e.symm
          omega)⟩)
        clear ho hg
        go_wp2_with fail
        go_roundw
        case rel => exact ⟨k + 1, v2, by omega, by go_num, rfl, HP2, HO3, HB3⟩
        case measure => simp [intOf]; omega
      | false =>
        have hx := all_at hs.out (k := k) (by rw [← H1.out]; exact hlt)
        exact absurd hx (by rw [HG.out, hq]; simp)
    · obtain rfl : n = k := by omega
      have hown := HOv.out
      rw [List.take_of_length_le (by have := H1.out; omega)] at hown
      obtain ⟨q, cq, rfl, hV⟩ := hown.intsV
      have HV := Lib.hid hV
      have HJ : Hid (joinE (zs.map pubZ) = 0) := Lib.hid (by unfold joinE; rw [if_pos (pubs_el hs.out)])
      obtain ⟨N, HN⟩ : ∃ N, Hid ((zs.map pubZ).length = N) := ⟨_, Lib.hid rfl⟩
      rw [HN.out] at HV ⊢
      clear hown hV HOv
      have hb := HB.out
      have B2 := Lib.hid (bel_trans B1.out hb)
      have A2 := Lib.hid (A1.out.below hb A1.out.lt)
      have R2 := Lib.hid (R1.out.below hb R1.out.lt)
      clear hb
      go_wp2_with (first
        | (go_at_call 8; refine (joinV_any q N cq (zs.map pubZ) _ HV.out).mono ?_; rintro e u3 ⟨rfl, hb⟩; rw [HJ.out, hj.out]; have B3 := Lib.hid (bel_trans B2.out hb); have A3 := Lib.hid (A2.out.below hb A2.out.lt); have R3 := Lib.hid (R2.out.below hb R2.out.lt); clear hb)
        | (go_at_call 9; refine (HM.out _ B3.out).mono ?_; rintro r u4 ⟨rfl, hb⟩; have B4 := Lib.hid (bel_trans B3.out hb); have A4 := Lib.hid (A3.out.below hb A3.out.lt); have R4 := Lib.hid (R3.out.below hb R3.out.lt); clear hb)
        | (refine list_storeR rfl (.tmp 19) (.tmp 65) rfl u4.heap.size rfl ml mk ma mb ms rfl hm.out 0 0 0 0 (List.replicate 32 0) (RBlk.new u4) ?_))
      intro u5 q5 k5
      have hb := (bel_alloc1 u4 _).trans (k5.below (Nat.le_refl _))
      have X5 := Lib.hid q5
      clear q5 k5
      have B5 := Lib.hid (bel_trans B4.out hb)
      have A5 := Lib.hid (A4.out.below hb A4.out.lt)
      have R5 := Lib.hid (R4.out.below hb R4.out.lt)
      clear hb
      obtain ⟨xb, hxb⟩ : ∃ q, u4.heap.size = q := ⟨_, rfl⟩
      rw [hxb] at X5 ⊢
      clear hxb
      have a0 := A5.out.cell 0
      have a1 := A5.out.cell 1
      have a2 := A5.out.cell 2
      have r0c := R5.out.cell 0
      have r1c := R5.out.cell 1
      have r2c := R5.out.cell 2
      go_upto_region 18 with (first
        | (refine list_loadR (by rfl) (.tmp 19) rfl xb rfl ml mk ma mb ms X5.out ?_)
        | (go_at_call 10; refine (HR.out _ B5.out).mono ?_; rintro r u6 ⟨rfl, hb⟩; have B6 := Lib.hid (bel_trans B5.out hb); have A6 := Lib.hid (A5.out.below hb A5.out.lt); have R6 := Lib.hid (R5.out.below hb R5.out.lt); have X6 := Lib.hid (X5.out.bel hb); clear hb a0 a1 a2 r0c r1c r2c))
      have hb := bel_alloc1 u6 (.cells #[.int .i64 A, .int .i64 B, .int .i64 a1, .int .i64 b1, .int .i64 a2, .int .i64 b2] 39)
      have S7 := Lib.hid (Blk.new u6 #[.int .i64 A, .int .i64 B, .int .i64 a1, .int .i64 b1, .int .i64 a2, .int .i64 b2] 39)
      generalize World.alloc u6 _ = u7 at hb S7 ⊢
      have B7 := Lib.hid (bel_trans B6.out hb)
      have A7 := Lib.hid (A6.out.below hb A6.out.lt)
      have R7 := Lib.hid (R6.out.below hb R6.out.lt)
      have X7 := Lib.hid (X6.out.bel hb)
      clear hb
      have gs := A6.out.lt
      generalize u6.heap.size = sb at S7 gs ⊢
      have s0 := S7.out.cell 0
      have s1 := S7.out.cell 1
      have s2 := S7.out.cell 2
      have s3 := S7.out.cell 3
      have s4 := S7.out.cell 4
      have s5 := S7.out.cell 5
      go_upto_region 21 with fail
      clear s0 s1 s2 s3 s4 s5
      have ZI := Lib.hid (hz.out.below B7.out)
      go_loopw [23] (fun i wr => ∃ (k : Nat) (b0 b1 b2 : Int), k ≤ n ∧ i = .int .i64 k ∧ Hid (Lft (zs.sum - (zs.take k).sum) x0 t0 A b0) ∧ Hid (Lft (zs.sum - (zs.take k).sum) x1 t1 a1 b1) ∧ Hid (Lft (zs.sum - (zs.take k).sum) x2 t2 a2 b2) ∧ Hid (Blk wr sb #[.int .i64 A, .int .i64 b0, .int .i64 a1, .int .i64 b1, .int .i64 a2, .int .i64 b2] 39) ∧ Hid (Below sb u7 wr)) (fun i _ => n - (intOf i).toNat)
      case atStart => exact ⟨0, _, _, _, by omega, rfl, Lib.hid (by simpa using L0.out), Lib.hid (by simpa using L1.out), Lib.hid (by simpa using L2.out), S7, Lib.hid (Below.refl _ _)⟩
      case round =>
        obtain ⟨k, b0, b1, b2, hk', rfl, M0, M1, M2, SR, BR⟩ := hrel
        by_cases hlt : k < n
        · obtain ⟨b9, off, hp, hb9, hcell⟩ := (hz.out.below (B7.out.trans (BR.out.mono (Nat.le_of_lt gs)))).at hlt
          subst hp
          have HT := Lib.hid (sum_take (zs := zs) (k := k) (by rw [← H1.out]; exact hlt))
          have HSS0 := all_at hs.out (k := k) (by rw [← H1.out]; exact hlt)
          obtain ⟨s, hx⟩ : ∃ x, zs.getD k 0 = x := ⟨_, rfl⟩
          rw [hx] at hcell HT HSS0
          clear hx
          have HSS := Lib.hid HSS0
          clear HSS0
          have n0 := M0.out.strip s hx0.out
          have n1 := M1.out.strip s hx1.out
          have n2 := M2.out.strip s hx2.out
          have HCK := Lib.hid (chk_of (M0.out.el hx0.out).1 (M0.out.el hx0.out).2 (M1.out.el hx1.out).1 (M1.out.el hx1.out).2 (M2.out.el hx2.out).1 (M2.out.el hx2.out).2)
          obtain ⟨c0, d0⟩ : ∃ q, mulZ b0 (powZ A (-s)) = q := ⟨_, rfl⟩
          obtain ⟨c1, d1⟩ : ∃ q, mulZ b1 (powZ a1 (-s)) = q := ⟨_, rfl⟩
          obtain ⟨c2, d2⟩ : ∃ q, mulZ b2 (powZ a2 (-s)) = q := ⟨_, rfl⟩
          rw [d0] at n0
          rw [d1] at n1
          rw [d2] at n2
          have D0 := Lib.hid d0
          have D1 := Lib.hid d1
          have D2 := Lib.hid d2
          have E0 := Lib.hid (show Lft (zs.sum - (zs.take (k + 1)).sum) x0 t0 A c0 by rw [HT.out, ← Int.sub_sub]; exact n0)
          have E1' := Lib.hid (show Lft (zs.sum - (zs.take (k + 1)).sum) x1 t1 a1 c1 by rw [HT.out, ← Int.sub_sub]; exact n1)
          have E2' := Lib.hid (show Lft (zs.sum - (zs.take (k + 1)).sum) x2 t2 a2 c2 by rw [HT.out, ← Int.sub_sub]; exact n2)
          clear n0 n1 n2 d0 d1 d2 M0 M1 M2 HT
          go_upto_region 23 with fail
          refine wp_region_any (by kernel_rfl) ?_
          change wpAny _ _ _ _ _ _ _ (World.drew _)
          generalize hWD : World.drew _ = W
          have SW := Lib.hid (show Blk W sb #[.int .i64 A, .int .i64 b0, .int .i64 a1, .int .i64 b1, .int .i64 a2, .int .i64 b2] 39 by rw [← hWD]; exact SR.out)
          have BW := Lib.hid (show Below sb u7 W by rw [← hWD]; exact BR.out.drew)
          have CW := Lib.hid (show W.cell? ⟨b9, off + k, none⟩ = some (.int .i64 s) by rw [← hWD]; exact hcell)
          have LB := Lib.hid (show b9 < W.heap.size by rw [← hWD]; exact hb9)
          clear hWD SR BR hcell hb9
          have hCD : ∀ u, Ext W u → Ext W u := fun u hu => hu
          refine region_U (D := Ext W) (Ext W) [11] (Ext.refl W) ?_
          refine anyU_takeP (i := 0) (j := 11) (v := .slice (some ⟨b9, off, none⟩) n cap) 109 [] rfl rfl (by kernel_rfl) (by kernel_rfl) (by kernel_rfl) (fun _ _ _ h => h) (by kernel_rfl) (Ext.stable _) hCD (yieldsU_val rfl (fun u hu => by go_simp)) ?_
          refine anyU_takeP (i := 1) (j := 11) (v := .int .i64 k) 110 [] rfl rfl (by kernel_rfl) (by kernel_rfl) (by kernel_rfl) (fun _ _ _ h => h) (by kernel_rfl) (Ext.stable _) hCD (yieldsU_val rfl (fun u hu => by go_simp)) ?_
          refine anyU_takeP (i := 2) (j := 11) (v := .pointer (some ⟨b9, off + k, none⟩)) 111 [] rfl rfl (by kernel_rfl) (by kernel_rfl) (by kernel_rfl) (fun _ _ _ h => h) (by kernel_rfl) (Ext.stable _) hCD (yieldsU_val rfl (fun u hu => by go_simp)) ?_
          refine anyU_takeP (i := 3) (j := 11) (v := .int .i64 s) 112 [] rfl rfl (by kernel_rfl) (by kernel_rfl) (by kernel_rfl) (fun _ _ _ h => h) (by kernel_rfl) (Ext.stable _) hCD (yieldsU_val rfl (fun u hu => by have c := (hu.cell (p := ⟨b9, off + k, none⟩) LB.out).trans CW.out; go_simp)) ?_
          simp only [Act.put, List.setIfInBounds_toArray, List.set_cons_succ, List.set_cons_zero]
          refine anyU_takeP (i := 4) (j := 11) (v := sealedV A b0 a1 b1 a2 b2) 113 [] rfl rfl (by kernel_rfl) (by kernel_rfl) (by kernel_rfl) (fun _ _ _ h => h) (by kernel_rfl) (Ext.stable _) hCD (yieldsU_val rfl (fun u hu => by have s := SW.out.below hu SW.out.lt; have q0 := s.cell 0; have q1 := s.cell 1; have q2 := s.cell 2; have q3 := s.cell 3; have q4 := s.cell 4; have q5 := s.cell 5; go_simp)) ?_
          refine anyU_takeP (i := 5) (j := 11) (v := .tuple #[sealedV A c0 a1 c1 a2 c2, .int .i64 0]) 114 [] rfl rfl (by kernel_rfl) (by kernel_rfl) (by kernel_rfl) (fun _ _ _ h => h) (by kernel_rfl) (Ext.stable _) hCD (yieldsU_call rfl 11 _ _ rfl #[.int .i64 s, sealedV A b0 a1 b1 a2 b2] (by simp [Act.eval, Act.put]) (fun u => by go_simp) (fun u hu => strip_is s A b0 a1 b1 a2 b2 c0 c1 c2 u HSS HCK D0 D1 D2)) ?_
          refine anyU_takeP (i := 6) (j := 11) (v := .tuple #[sealedV A c0 a1 c1 a2 c2, .int .i64 0]) 108 [] rfl rfl (by kernel_rfl) (by kernel_rfl) (by kernel_rfl) (fun _ _ _ h => h) (by kernel_rfl) (Ext.stable _) hCD (yieldsU_val rfl (fun u hu => by go_simp)) ?_
          refine anyU_takeP (i := 7) (j := 11) (v := sealedV A c0 a1 c1 a2 c2) 115 [] rfl rfl (by kernel_rfl) (by kernel_rfl) (by kernel_rfl) (fun _ _ _ h => h) (by kernel_rfl) (Ext.stable _) hCD (yieldsU_val rfl (fun u hu => by go_simp)) ?_
          refine anyU_takeP (i := 8) (j := 11) (v := .int .i64 0) 116 [] rfl rfl (by kernel_rfl) (by kernel_rfl) (by kernel_rfl) (fun _ _ _ h => h) (by kernel_rfl) (Ext.stable _) hCD (yieldsU_val rfl (fun u hu => by go_simp)) ?_
          simp only [Act.put, List.setIfInBounds_toArray, List.set_cons_succ, List.set_cons_zero]
          refine anyU_one 9 2 _ rfl rfl (by kernel_rfl) ?_
          intro g1 hu
          go_wp2_with fail
          change ∃ C' : World → Prop, _ ∧ _ ∧ _ ∧ anyU _ _ _ _ _ _ 2 _ _ _
          have X1 := Lib.hid (Blk.new g1 #[.int .i64 0, .int .i64 0, .int .i64 0, .int .i64 0, .int .i64 0, .int .i64 0] 39)
          have E1 := Lib.hid (Ext.trans hu (bel_alloc1 g1 (.cells #[.int .i64 0, .int .i64 0, .int .i64 0, .int .i64 0, .int .i64 0, .int .i64 0] 39)))
          have lw := hu.size
          generalize World.alloc g1 _ = g2 at X1 E1 ⊢
          obtain ⟨rb, hrb⟩ : ∃ q, g1.heap.size = q := ⟨_, rfl⟩
          rw [hrb] at X1 lw ⊢
          clear hu hrb
          refine anchorF (fun z => Ext W z ∧ Blk z rb #[.int .i64 0, .int .i64 0, .int .i64 0, .int .i64 0, .int .i64 0, .int .i64 0] 39) (fun z hz => hz.1) ((Ext.stable W).and (fun y z h k => h.below k h.lt)) ⟨E1.out, X1.out⟩ ?_
          (try simp only [Act.put])
          refine anyU_one 10 1 _ rfl rfl (by kernel_rfl) ?_
          intro g3 hu
          have y0 := hu.2.cell 0
          have y1 := hu.2.cell 1
          have y2 := hu.2.cell 2
          have y3 := hu.2.cell 3
          have y4 := hu.2.cell 4
          have y5 := hu.2.cell 5
          have z0 := hu.2.frozen 0
          have z1 := hu.2.frozen 1
          have z2 := hu.2.frozen 2
          have z3 := hu.2.frozen 3
          have z4 := hu.2.frozen 4
          have z5 := hu.2.frozen 5
          go_wp2_with fail
          change ∃ C' : World → Prop, _ ∧ _ ∧ _ ∧ anyU _ _ _ _ _ _ 1 _ _ _
          have X4 := Lib.hid (six_stored hu.2 (.int .i64 A) (.int .i64 c0) (.int .i64 a1) (.int .i64 c1) (.int .i64 a2) (.int .i64 c2))
          have E4 := Lib.hid (six_below hu.1 lw (.int .i64 A) (.int .i64 c0) (.int .i64 a1) (.int .i64 c1) (.int .i64 a2) (.int .i64 c2))
          clear y0 y1 y2 y3 y4 y5 z0 z1 z2 z3 z4 z5
          generalize World.setCell _ _ _ = g4 at X4 E4 ⊢
          clear hu X1 E1
          refine anchorF (fun z => Ext W z ∧ Blk z rb #[.int .i64 A, .int .i64 c0, .int .i64 a1, .int .i64 c1, .int .i64 a2, .int .i64 c2] 39) (fun z hz => hz.1) ((Ext.stable W).and (fun y z h k => h.below k h.lt)) ⟨E4.out, X4.out⟩ ?_
          (try simp only [Act.put])
          refine anyU_tail 11 [] rfl rfl (by decide) (by kernel_rfl) ?_
          intro g5 hu5
          simp only [Act.put, List.filterMap_cons, List.filterMap_nil, List.getElem?_cons_succ, List.getElem?_cons_zero]
          have T5 := Lib.hid hu5.2
          have S5 := Lib.hid (SW.out.below hu5.1 SW.out.lt)
          have BB5 := Lib.hid (BW.out.trans (Below.mono hu5.1 (by have := SW.out.lt; omega)))
          clear hu5 E4 X4 SW BW
          have p0 := S5.out.cell 0
          have p1 := S5.out.cell 1
          have p2 := S5.out.cell 2
          have p3 := S5.out.cell 3
          have p4 := S5.out.cell 4
          have p5 := S5.out.cell 5
          have f0 := S5.out.frozen 0
          have f1 := S5.out.frozen 1
          have f2 := S5.out.frozen 2
          have f3 := S5.out.frozen 3
          have f4 := S5.out.frozen 4
          have f5 := S5.out.frozen 5
          have q0 := T5.out.cell 0
          have q1 := T5.out.cell 1
          have q2 := T5.out.cell 2
          have q3 := T5.out.cell 3
          have q4 := T5.out.cell 4
          have q5 := T5.out.cell 5
          go_wp2_with fail
          go_roundw
          case rel => exact ⟨k + 1, c0, c1, c2, by omega, by go_num, E0, E1', E2', Lib.hid (six_stored S5.out _ _ _ _ _ _), Lib.hid (six_below BB5.out (Nat.le_refl _) _ _ _ _ _ _)⟩
          case measure => simp [intOf]; omega
        · obtain rfl : n = k := by omega
          have HZ : zs.sum - (zs.take n).sum = 0 := by rw [List.take_of_length_le (by have := H1.out; omega)]; omega
          obtain rfl := (show Lft 0 x0 t0 A b0 by rw [← HZ]; exact M0.out).bare hx0.out
          obtain rfl := (show Lft 0 x1 t1 a1 b1 by rw [← HZ]; exact M1.out).bare hx1.out
          obtain rfl := (show Lft 0 x2 t2 a2 b2 by rw [← HZ]; exact M2.out).bare hx2.out
          have HCK := Lib.hid (chk_of (M0.out.el hx0.out).1 (M0.out.el hx0.out).2 (M1.out.el hx1.out).1 (M1.out.el hx1.out).2 (M2.out.el hx2.out).1 (M2.out.el hx2.out).2)
          have HPZ := Lib.hid (show pubZ sec = key by unfold pubZ; rw [if_pos hsec.out]; exact KEY.eq)
          have HPE := Lib.hid (show pubE sec = 0 by unfold pubE; rw [if_pos hsec.out])
          have B8 := Lib.hid (B7.out.trans (BR.out.mono (Nat.le_of_lt gs)))
          have A8 := Lib.hid (A7.out.below BR.out gs)
          have p0 := SR.out.cell 0
          have p1 := SR.out.cell 1
          have p2 := SR.out.cell 2
          have p3 := SR.out.cell 3
          have p4 := SR.out.cell 4
          have p5 := SR.out.cell 5
          clear M0 M1 M2 BR HZ
          go_upto_region 28 with (go_at_call 12; refine (read_is _ _ _ _ _ _ alias yv zv _ HCK N0 N1 N2).mono ?_; rintro e v9 ⟨rfl, hb⟩; have B9 := Lib.hid (bel_trans B8.out hb); have A9 := Lib.hid (A8.out.below hb A8.out.lt); clear hb p0 p1 p2 p3 p4 p5)
          have hb := bel_alloc1 v9 (.cells #[.int .i64 alias, .int .i64 yv, .int .i64 zv] 23)
          have Y10 := Lib.hid (Blk.new v9 #[.int .i64 alias, .int .i64 yv, .int .i64 zv] 23)
          generalize World.alloc v9 _ = v10 at hb Y10 ⊢
          have B10 := Lib.hid (bel_trans B9.out hb)
          have A10 := Lib.hid (A9.out.below hb A9.out.lt)
          clear hb
          generalize v9.heap.size = yb at Y10 ⊢
          go_wp2_with (first
            | (go_at_call 7; refine (public_c sec key 0 _ HPZ.out HPE.out).mono ?_; rintro e v11 ⟨rfl, hb⟩; have B11 := Lib.hid (bel_trans B10.out hb); have A11 := Lib.hid (A10.out.below hb A10.out.lt); have Y11 := Lib.hid (Y10.out.below hb Y10.out.lt); have p0 := A11.out.cell 0; have p1 := A11.out.cell 1; have p2 := A11.out.cell 2; have q0 := Y11.out.cell 0; have q1 := Y11.out.cell 1; have q2 := Y11.out.cell 2; clear hb)
            | (go_at_call 13; refine (recChk_is key a b c alias yv zv ev sv true _ hok (Lib.hid (hk.out.below B11.out)) he.out hss.out hv).mono ?_; rintro e v12 ⟨rfl, hb⟩; have B12 := Lib.hid (bel_trans B11.out hb); clear hb))
          go_ret
          exact ⟨rfl, B12.out⟩
end Go.Proofs.YtpjobllfiimdkaaDoor
