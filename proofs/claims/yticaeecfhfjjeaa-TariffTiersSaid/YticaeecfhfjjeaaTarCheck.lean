/- tariff.Check and the reference's Check return the same. -/
import Derived.Test.YticaeecfhfjjeaaTarTier
import Derived.Test.YticaeecfhfjjeaaMem
import Derived.BigQuiet
import Derived.Deep.QuietTactic
namespace Go.Proofs.Yticaeecfhfjjeaa
open Go.RowKit
set_option linter.unusedVariables false

abbrev tarV (pb : Option Addr) (nb cb : Nat) (pl : Option Addr) (nl cl : Nat) (pt : Option Addr) (nt ct : Nat) : Value := .agg #[.slice pb nb cb, .slice pl nl cl, .slice pt nt ct]
def TarV (w : World) (pb : Option Addr) (nb : Nat) (pl : Option Addr) (nl : Nat) (pt : Option Addr) (nt : Nat) (base leg : List Int) (ts : List Tr) : Prop :=
  IntsV w pb nb base ∧ IntsV w pl nl leg ∧ TiersV w pt nt ts
theorem TarV.below {w w' : World} {pb : Option Addr} {nb : Nat} {pl : Option Addr} {nl : Nat} {pt : Option Addr} {nt : Nat} {base leg : List Int} {ts : List Tr} (h : TarV w pb nb pl nl pt nt base leg ts) (k : Below w.heap.size w w') : TarV w' pb nb pl nl pt nt base leg ts :=
  ⟨h.1.below k, h.2.1.below k, h.2.2.below k⟩
def lensB (nb nl nt : Nat) : Bool := decide (1 ≤ nb ∧ nb ≤ 8 ∧ nl = nb ∧ nt ≤ 16)
def chkB (base leg : List Int) (ts : List Tr) : Bool := lensB base.length leg.length ts.length && (base.all priceB && (leg.all priceB && tiersB ts))
def chkE (base leg : List Int) (ts : List Tr) : Int := if chkB base leg ts then 0 else 210

theorem lens_t {nb nl nt : Nat} (h : lensB nb nl nt = true) : 1 ≤ nb ∧ nb ≤ 8 ∧ nl = nb ∧ nt ≤ 16 := by unfold lensB at h; simpa using h

set_option maxHeartbeats 2000000 in
theorem check_any (pb : Option Addr) (nb cb : Nat) (pl : Option Addr) (nl cl : Nat) (pt : Option Addr) (nt ct : Nat) (base leg : List Int) (ts : List Tr) (w : World) (hz : Hid (TarV w pb nb pl nl pt nt base leg ts)) :
    Calls Try.prog 12 #[tarV pb nb cb pl nl cl pt nt ct] w fun e w' => e = .returned (.int .i64 (chkE base leg ts)) ∧ Below w.heap.size w w' := by
  have H1 := Lib.hid hz.out.1.1; have H2 := Lib.hid hz.out.2.1.1; have H3 := Lib.hid hz.out.2.2.1
  have m1 := hz.out.1.2.1; have m2 := hz.out.2.1.2.1; have m3 := hz.out.2.2.2.1
  have v : Blks (w.alloc (.cells #[.slice pb nb cb, .slice pl nl cl, .slice pt nt ct] 25)) [(w.heap.size, #[.slice pb nb cb, .slice pl nl cl, .slice pt nt ct], 25)] := (Blks.nil w).box _ _
  have V := Lib.hid v; clear v
  have h1 := Lib.hid (bel_alloc1 w (.cells #[.slice pb nb cb, .slice pl nl cl, .slice pt nt ct] 25))
  cases hl : lensB nb nl nt with
  | false =>
    have HE : Hid (chkE base leg ts = 210) := Lib.hid (by unfold chkE chkB; rw [← H1.out, ← H2.out, ← H3.out, hl]; rfl)
    by_cases a1 : 1 ≤ nb
    · by_cases a2 : nb ≤ 8
      · by_cases a3 : nl = nb
        · subst a3
          have a4 : 16 < nt := by
            apply Classical.byContradiction; intro hh
            have : lensB nl nl nt = true := by unfold lensB; simp; omega
            rw [this] at hl; cases hl
          clear hl
          go_enter Try.func12, Try.ntmps12
          go_wp2_with fail
          go_ret
          exact ⟨ret_int HE.out.symm, h1.out⟩
        · have a4 : ((nl : Int) != (nb : Int)) = true := by simp; omega
          clear hl
          go_enter Try.func12, Try.ntmps12
          go_wp2_with fail
          go_ret
          exact ⟨ret_int HE.out.symm, h1.out⟩
      · clear hl
        go_enter Try.func12, Try.ntmps12
        go_wp2_with fail
        go_ret
        exact ⟨ret_int HE.out.symm, h1.out⟩
    · clear hl
      go_enter Try.func12, Try.ntmps12
      go_wp2_with fail
      go_ret
      exact ⟨ret_int HE.out.symm, h1.out⟩
  | true =>
    obtain ⟨a1, a2, rfl, a4⟩ := lens_t hl
    have HL := Lib.hid hl; clear hl
    obtain ⟨A, HA⟩ : ∃ A, Hid (base.all priceB = A) := ⟨_, Lib.hid rfl⟩
    obtain ⟨B, HB⟩ : ∃ A, Hid (leg.all priceB = A) := ⟨_, Lib.hid rfl⟩
    obtain ⟨C, HC⟩ : ∃ A, Hid (tiersB ts = A) := ⟨_, Lib.hid rfl⟩
    have HE : Hid (chkE base leg ts = if (A && (B && C)) then 0 else 210) := Lib.hid (by unfold chkE chkB; rw [← H1.out, ← H2.out, ← H3.out, HL.out, HA.out, HB.out, HC.out]; rfl)
    go_enter Try.func12, Try.ntmps12
    go_wp2_with fail
    refine (all_any pb nl cb base _ (Lib.hid (hz.out.1.below h1.out))).mono ?_; rintro e w1 ⟨rfl, hb⟩
    rw [HA.out]
    have h2 := Lib.hid (belB2 (Below.refl _ w) hb)
    have V1 := Lib.hid (V.out.below hb); clear hb
    obtain ⟨c0, c1, c2⟩ := blk3_facts V1.out.1
    have l1 := V1.out.1.lt
    dsimp only at l1
    cases A with
    | false =>
      go_wp2_with fail
      go_ret
      exact ⟨ret_int (by rw [HE.out]; rfl), h2.out⟩
    | true =>
    go_wp2_with fail
    refine (all_any pl nl cl leg _ (Lib.hid (hz.out.2.1.below h2.out))).mono ?_; rintro e w2 ⟨rfl, hb⟩
    rw [HB.out]
    have h3 := Lib.hid (bel_trans h2.out hb)
    have V2 := Lib.hid (V1.out.below hb); clear hb c0 c1 c2 l1
    obtain ⟨c0, c1, c2⟩ := blk3_facts V2.out.1
    have l1 := V2.out.1.lt
    dsimp only at l1
    cases B with
    | false =>
      go_wp2_with fail
      go_ret
      exact ⟨ret_int (by rw [HE.out]; rfl), h3.out⟩
    | true =>
    go_wp2_with fail
    refine (allT_any pt nt ct ts w2.heap.size w2 _ (Lib.hid (hz.out.2.2.below h3.out)) (Lib.hid (bel_alloc1 _ _)) (Nat.le_refl _) (by simp) (Lib.hid ?_) (Lib.hid ?_)).mono ?_
    · simp
    · simp
    rintro e w3 ⟨rfl, hK⟩
    rw [HC.out]
    have h4 := Lib.hid (h3.out.trans ((((bel_alloc1 w2 (.cells #[.int .i64 0] 3)).mono h3.out.size)).trans (hK.below h3.out.size (by have := h3.out.size; simp; omega)))); clear hK
    cases C with
    | false =>
      go_wp2_with fail
      go_ret
      exact ⟨ret_int (by rw [HE.out]; rfl), h4.out⟩
    | true =>
      go_wp2_with fail
      go_ret
      exact ⟨ret_int (by rw [HE.out]; rfl), h4.out⟩
end Go.Proofs.Yticaeecfhfjjeaa
