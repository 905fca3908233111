/- Price and Shares at all arguments. -/
import Derived.Test.YticaeecfhfjjeaaTarRSh
namespace Go.Proofs.Yticaeecfhfjjeaa
open Go.RowKit
set_option linter.unusedVariables false

def priceZ (base leg : List Int) (ts : List Tr) (c l m : Int) : Int := if errE base leg ts c l m = 0 then l * leg.getD c.toNat 0 + (base.getD c.toNat 0 + extraF m ts) else 0
def partsZ (base leg : List Int) (ts : List Tr) (c l m : Int) : List Int := if errE base leg ts c l m = 0 then List.replicate l.toNat (leg.getD c.toNat 0) else []
def restZ (base leg : List Int) (ts : List Tr) (c l m : Int) : Int := if errE base leg ts c l m = 0 then base.getD c.toNat 0 + extraF m ts else 0
theorem err_ok {base leg : List Int} {ts : List Tr} {c l m : Int} (h : errE base leg ts c l m = 0) :
    chkB base leg ts = true ∧ okA base.length c l m = true := by
  unfold errE at h
  split at h
  · rename_i h1; split at h
    · rename_i h2; exact ⟨h1, h2⟩
    · omega
  · omega
theorem err_nat {base leg : List Int} {ts : List Tr} {c l m : Int} (h : errE base leg ts c l m = 0) :
    ∃ k L : Nat, c = k ∧ l = L ∧ k < base.length ∧ k < leg.length ∧ 1 ≤ L ∧ L ≤ 8 ∧ (0 ≤ leg.getD k 0 ∧ leg.getD k 0 ≤ 1048576) ∧ (0 ≤ base.getD k 0 ∧ base.getD k 0 ≤ 1048576) ∧ (0 ≤ extraF m ts ∧ extraF m ts ≤ 1048576) := by
  obtain ⟨h1, h2⟩ := err_ok h
  obtain ⟨a0, a1, a2, a3, a4, a5⟩ := okA_t h2
  obtain ⟨⟨b0, b1, b2, b3⟩, c1, c2, c3⟩ := chk_parts h1
  refine ⟨c.toNat, l.toNat, by omega, by omega, by omega, by omega, by omega, by omega, all_at c2 (by omega), all_at c1 (by omega), extra_bd c3 m⟩

theorem priceA_any (pb : Option Addr) (nb cb : Nat) (pl : Option Addr) (nl cl : Nat) (pt : Option Addr) (nt ct : Nat) (base leg : List Int) (ts : List Tr) (c l m : Int) (w : World) (hz : Hid (TarV w pb nb pl nl pt nt base leg ts)) :
    Calls Try.prog 10 #[tarV pb nb cb pl nl cl pt nt ct, .int .i64 c, .int .i64 l, .int .i64 m] w fun e w' => e = .returned (.tuple #[.int .i64 (priceZ base leg ts c l m), .int .i64 (errE base leg ts c l m)]) ∧ Below w.heap.size w w' := by
  by_cases h : errE base leg ts c l m = 0
  · obtain ⟨k, L, rfl, rfl, h1, h2, h3, h4, ⟨h5, h6⟩, ⟨h7, h8⟩, h9, h10⟩ := err_nat h
    have := price_yes pb nb cb pl nl cl pt nt ct base leg ts k L m _ _ _ w hz (Lib.hid h) (by have := hz.out.1.1; omega) (by have := hz.out.2.1.1; omega) h3 h4 (Lib.hid rfl) (Lib.hid rfl) (Lib.hid rfl) h5 h6 h7 h8 h9 h10
    unfold priceZ; rw [if_pos h, h, Int.toNat_natCast]; exact this
  · have := price_no pb nb cb pl nl cl pt nt ct base leg ts c l m _ w hz (Lib.hid rfl) h
    unfold priceZ; rw [if_neg h]; exact this
theorem rpriceA_any (pb : Option Addr) (nb cb : Nat) (pl : Option Addr) (nl cl : Nat) (pt : Option Addr) (nt ct : Nat) (base leg : List Int) (ts : List Tr) (c l m : Int) (w : World) (hz : Hid (TarV w pb nb pl nl pt nt base leg ts)) :
    Calls Try.prog 11 #[tarV pb nb cb pl nl cl pt nt ct, .int .i64 c, .int .i64 l, .int .i64 m] w fun e w' => e = .returned (.tuple #[.int .i64 (priceZ base leg ts c l m), .int .i64 (errE base leg ts c l m)]) ∧ Below w.heap.size w w' := by
  by_cases h : errE base leg ts c l m = 0
  · obtain ⟨k, L, rfl, rfl, h1, h2, h3, h4, ⟨h5, h6⟩, ⟨h7, h8⟩, h9, h10⟩ := err_nat h
    have := rprice_yes pb nb cb pl nl cl pt nt ct base leg ts k L m _ _ _ w hz (Lib.hid h) (by have := hz.out.1.1; omega) (by have := hz.out.2.1.1; omega) h3 h4 (Lib.hid rfl) (Lib.hid rfl) (Lib.hid rfl) h5 h6 h7 h8 h9 h10
    unfold priceZ; rw [if_pos h, h, Int.toNat_natCast]; exact this
  · have := rprice_no pb nb cb pl nl cl pt nt ct base leg ts c l m _ w hz (Lib.hid rfl) h
    unfold priceZ; rw [if_neg h]; exact this

def SharesA (w : World) (base leg : List Int) (ts : List Tr) (c l m : Int) (e : Ending) (w' : World) : Prop :=
  ∃ v, e = .returned (.tuple #[v, .int .i64 (restZ base leg ts c l m), .int .i64 (errE base leg ts c l m)]) ∧ Own w' w.heap.size v (partsZ base leg ts c l m) ∧ Below w.heap.size w w'
theorem shares_any (pb : Option Addr) (nb cb : Nat) (pl : Option Addr) (nl cl : Nat) (pt : Option Addr) (nt ct : Nat) (base leg : List Int) (ts : List Tr) (c l m : Int) (w : World) (hz : Hid (TarV w pb nb pl nl pt nt base leg ts)) :
    Calls Try.prog 14 #[tarV pb nb cb pl nl cl pt nt ct, .int .i64 c, .int .i64 l, .int .i64 m] w (SharesA w base leg ts c l m) := by
  by_cases h : errE base leg ts c l m = 0
  · obtain ⟨k, L, rfl, rfl, h1, h2, h3, h4, ⟨h5, h6⟩, ⟨h7, h8⟩, h9, h10⟩ := err_nat h
    refine (shares_yes pb nb cb pl nl cl pt nt ct base leg ts k L m _ _ _ w hz (Lib.hid h) (by have := hz.out.1.1; omega) (by have := hz.out.2.1.1; omega) h3 h4 (Lib.hid rfl) (Lib.hid rfl) (Lib.hid rfl) h7 h8 h9 h10).mono fun e w' hh => ?_
    obtain ⟨v, a, b, d⟩ := sharesV h4 hh
    refine ⟨v, ?_, ?_, d⟩
    · unfold restZ; rw [if_pos h, h, Int.toNat_natCast]; exact a
    · unfold partsZ; rw [if_pos h, Int.toNat_natCast, Int.toNat_natCast]; exact b
  · refine (shares_no pb nb cb pl nl cl pt nt ct base leg ts c l m _ w hz (Lib.hid rfl) h).mono fun e w' hh => ?_
    refine ⟨.slice none 0 0, ?_, ?_, hh.2⟩
    · unfold restZ; rw [if_neg h]; exact hh.1
    · unfold partsZ; rw [if_neg h]; exact World.ownsRow_nil _ _ _ _
theorem rshares_any (pb : Option Addr) (nb cb : Nat) (pl : Option Addr) (nl cl : Nat) (pt : Option Addr) (nt ct : Nat) (base leg : List Int) (ts : List Tr) (c l m : Int) (w : World) (hz : Hid (TarV w pb nb pl nl pt nt base leg ts)) :
    Calls Try.prog 15 #[tarV pb nb cb pl nl cl pt nt ct, .int .i64 c, .int .i64 l, .int .i64 m] w (SharesA w base leg ts c l m) := by
  by_cases h : errE base leg ts c l m = 0
  · obtain ⟨k, L, rfl, rfl, h1, h2, h3, h4, ⟨h5, h6⟩, ⟨h7, h8⟩, h9, h10⟩ := err_nat h
    refine (rshares_yes pb nb cb pl nl cl pt nt ct base leg ts k L m _ _ _ w hz (Lib.hid h) (by have := hz.out.1.1; omega) (by have := hz.out.2.1.1; omega) h3 h4 (Lib.hid rfl) (Lib.hid rfl) (Lib.hid rfl) h7 h8 h9 h10).mono fun e w' hh => ?_
    obtain ⟨v, a, b, d⟩ := hh
    refine ⟨v, ?_, ?_, d⟩
    · unfold restZ; rw [if_pos h, h, Int.toNat_natCast]; exact a
    · unfold partsZ; rw [if_pos h, Int.toNat_natCast, Int.toNat_natCast]; exact b
  · refine (rshares_no pb nb cb pl nl cl pt nt ct base leg ts c l m _ w hz (Lib.hid rfl) h).mono fun e w' hh => ?_
    refine ⟨.slice none 0 0, ?_, ?_, hh.2⟩
    · unfold restZ; rw [if_neg h]; exact hh.1
    · unfold partsZ; rw [if_neg h]; exact World.ownsRow_nil _ _ _ _
end Go.Proofs.Yticaeecfhfjjeaa
