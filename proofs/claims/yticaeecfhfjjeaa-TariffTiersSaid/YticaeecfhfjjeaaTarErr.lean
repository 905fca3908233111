/- What is wrong with what is asked. -/
import Derived.Test.YticaeecfhfjjeaaTarRChk
namespace Go.Proofs.Yticaeecfhfjjeaa
open Go.RowKit
set_option linter.unusedVariables false

def okA (n : Nat) (class_ legs crowd : Int) : Bool := decide (0 ≤ class_ ∧ class_ < n ∧ 1 ≤ legs ∧ legs ≤ 8 ∧ 1 ≤ crowd ∧ crowd ≤ 64)
theorem okA_t {n : Nat} {c l m : Int} (h : okA n c l m = true) : 0 ≤ c ∧ c < n ∧ 1 ≤ l ∧ l ≤ 8 ∧ 1 ≤ m ∧ m ≤ 64 := by unfold okA at h; simpa using h
theorem okA_f {n : Nat} {c l m : Int} (h : okA n c l m = false) : ¬ (0 ≤ c ∧ c < n ∧ 1 ≤ l ∧ l ≤ 8 ∧ 1 ≤ m ∧ m ≤ 64) := by unfold okA at h; simpa using h
def errE (base leg : List Int) (ts : List Tr) (class_ legs crowd : Int) : Int := if chkB base leg ts then (if okA base.length class_ legs crowd then 0 else 1) else 210

set_option maxHeartbeats 2000000 in
theorem kcheck_any (pb : Option Addr) (nb cb : Nat) (pl : Option Addr) (nl cl : Nat) (pt : Option Addr) (nt ct : Nat) (base leg : List Int) (ts : List Tr) (c l m : Int) (w : World) (hz : Hid (TarV w pb nb pl nl pt nt base leg ts)) :
    Calls Try.prog 25 #[tarV pb nb cb pl nl cl pt nt ct, .int .i64 c, .int .i64 l, .int .i64 m] w fun e w' => e = .returned (.int .i64 (errE base leg ts c l m)) ∧ Below w.heap.size w w' := by
  have H1 := Lib.hid hz.out.1.1
  have m1 := hz.out.1.2.1
  have v : Blks (w.alloc (.cells #[.slice pb nb cb, .slice pl nl cl, .slice pt nt ct] 25)) [(w.heap.size, #[.slice pb nb cb, .slice pl nl cl, .slice pt nt ct], 25)] := (Blks.nil w).box _ _
  have V := Lib.hid v; clear v
  have h1 := Lib.hid (bel_alloc1 w (.cells #[.slice pb nb cb, .slice pl nl cl, .slice pt nt ct] 25))
  go_enter Try.func25, Try.ntmps25
  go_wp2_with fail
  refine (check_any pb nb cb pl nl cl pt nt ct base leg ts _ (Lib.hid (hz.out.below h1.out))).mono ?_; rintro e w1 ⟨rfl, hb⟩
  have h2 := Lib.hid (belB2 (Below.refl _ w) hb)
  have V1 := Lib.hid (V.out.below hb); clear hb
  obtain ⟨c0, c1, c2⟩ := blk3_facts V1.out.1
  have l1 := V1.out.1.lt
  dsimp only at l1
  cases hk : chkB base leg ts with
  | false =>
    have HC : Hid (chkE base leg ts = 210) := Lib.hid (by unfold chkE; rw [hk]; rfl)
    have HE : Hid (errE base leg ts c l m = 210) := Lib.hid (by unfold errE; rw [hk]; rfl)
    clear hk
    rw [HC.out]
    go_wp2_with fail
    go_ret
    exact ⟨ret_int HE.out.symm, h2.out⟩
  | true =>
    have HC : Hid (chkE base leg ts = 0) := Lib.hid (by unfold chkE; rw [hk]; rfl)
    rw [HC.out]
    cases ha : okA base.length c l m with
    | false =>
      have HE : Hid (errE base leg ts c l m = 1) := Lib.hid (by unfold errE; rw [hk, ha]; rfl)
      have HA := Lib.hid (okA_f ha); rw [← H1.out] at HA
      clear hk ha
      go_wp2_with fail
      all_goals first
        | (go_ret; exact ⟨ret_int HE.out.symm, h2.out⟩)
        | (exfalso; have := HA.out; omega)
    | true =>
      have HE : Hid (errE base leg ts c l m = 0) := Lib.hid (by unfold errE; rw [hk, ha]; rfl)
      obtain ⟨a0, a1, a2, a3, a4, a5⟩ := okA_t ha; rw [← H1.out] at a1
      clear hk ha
      go_wp2_with fail
      go_ret
      exact ⟨ret_int HE.out.symm, h2.out⟩

set_option maxHeartbeats 2000000 in
theorem rwrong_any (pb : Option Addr) (nb cb : Nat) (pl : Option Addr) (nl cl : Nat) (pt : Option Addr) (nt ct : Nat) (base leg : List Int) (ts : List Tr) (c l m : Int) (w : World) (hz : Hid (TarV w pb nb pl nl pt nt base leg ts)) :
    Calls Try.prog 18 #[tarV pb nb cb pl nl cl pt nt ct, .int .i64 c, .int .i64 l, .int .i64 m] w fun e w' => e = .returned (.int .i64 (errE base leg ts c l m)) ∧ Below w.heap.size w w' := by
  have H1 := Lib.hid hz.out.1.1
  have m1 := hz.out.1.2.1
  have v : Blks (w.alloc (.cells #[.slice pb nb cb, .slice pl nl cl, .slice pt nt ct] 25)) [(w.heap.size, #[.slice pb nb cb, .slice pl nl cl, .slice pt nt ct], 25)] := (Blks.nil w).box _ _
  have V := Lib.hid v; clear v
  have h1 := Lib.hid (bel_alloc1 w (.cells #[.slice pb nb cb, .slice pl nl cl, .slice pt nt ct] 25))
  go_enter Try.func18, Try.ntmps18
  go_wp2_with fail
  refine (rcheck_any pb nb cb pl nl cl pt nt ct base leg ts _ (Lib.hid (hz.out.below h1.out))).mono ?_; rintro e w1 ⟨rfl, hb⟩
  have h2 := Lib.hid (belB2 (Below.refl _ w) hb)
  have V1 := Lib.hid (V.out.below hb); clear hb
  obtain ⟨c0, c1, c2⟩ := blk3_facts V1.out.1
  have l1 := V1.out.1.lt
  dsimp only at l1
  cases hk : chkB base leg ts with
  | false =>
    have HC : Hid (chkE base leg ts = 210) := Lib.hid (by unfold chkE; rw [hk]; rfl)
    have HE : Hid (errE base leg ts c l m = 210) := Lib.hid (by unfold errE; rw [hk]; rfl)
    clear hk
    rw [HC.out]
    go_wp2_with fail
    go_ret
    exact ⟨ret_int HE.out.symm, h2.out⟩
  | true =>
    have HC : Hid (chkE base leg ts = 0) := Lib.hid (by unfold chkE; rw [hk]; rfl)
    rw [HC.out]
    cases ha : okA base.length c l m with
    | false =>
      have HE : Hid (errE base leg ts c l m = 1) := Lib.hid (by unfold errE; rw [hk, ha]; rfl)
      have HA := Lib.hid (okA_f ha); rw [← H1.out] at HA
      clear hk ha
      go_wp2_with fail
      all_goals first
        | (go_ret; exact ⟨ret_int HE.out.symm, h2.out⟩)
        | (exfalso; have := HA.out; omega)
    | true =>
      have HE : Hid (errE base leg ts c l m = 0) := Lib.hid (by unfold errE; rw [hk, ha]; rfl)
      obtain ⟨a0, a1, a2, a3, a4, a5⟩ := okA_t ha; rw [← H1.out] at a1
      clear hk ha
      go_wp2_with fail
      go_ret
      exact ⟨ret_int HE.out.symm, h2.out⟩
end Go.Proofs.Yticaeecfhfjjeaa
