/- Package elgamal: Public and Join, for all ints and lists. -/
import Derived.Test.YtbmeljkdemdloaaElg
namespace Go.Proofs.Ytbmeljkdemdloaa
open Go.RowKit
set_option linter.unusedVariables false

def secB (s : Int) : Bool := decide (1 ≤ s ∧ s < 1073741789)

set_option maxHeartbeats 400000 in
theorem sec_any (s : Int) (w : World) :
    Calls Try.prog 32 #[.int .i64 s] w fun e w' => e = .returned (.bool (secB s)) ∧ w = w' := by
  by_cases h1 : 1 ≤ s
  · by_cases h2 : s < 1073741789
    · have H := Lib.hid (show secB s = true by unfold secB; simp [h1, h2])
      go_enter Try.func32, Try.ntmps32
      go_wp2
      go_ret
      exact ⟨ret_bool H.out.symm, rfl⟩
    · have H := Lib.hid (show secB s = false by unfold secB; simp; omega)
      go_enter Try.func32, Try.ntmps32
      go_wp2
      go_ret
      exact ⟨ret_bool H.out.symm, rfl⟩
  · have H := Lib.hid (show secB s = false by unfold secB; simp; omega)
    go_enter Try.func32, Try.ntmps32
    go_wp2
    go_ret
    exact ⟨ret_bool H.out.symm, rfl⟩

def pubZ (s : Int) : Int := if secB s then powZ 4 s else 0
def pubE (s : Int) : Int := if secB s then 0 else 110

set_option maxHeartbeats 400000 in
theorem public_any (s : Int) (w : World) :
    Calls Try.prog 11 #[.int .i64 s] w fun e w' => e = .returned (.tuple #[.int .i64 (pubZ s), .int .i64 (pubE s)]) ∧ Below w.heap.size w w' := by
  cases hv : secB s with
  | true =>
    have HV := Lib.hid hv
    have e1 := Lib.hid (show pubZ s = powZ 4 s by unfold pubZ; rw [hv, if_pos rfl])
    have e2 := Lib.hid (show pubE s = 0 by unfold pubE; rw [hv]; rfl)
    clear hv
    go_enter Try.func11, Try.ntmps11
    go_wp2_with fail
    refine (sec_any _ _).mono ?_; rintro e w' ⟨rfl, rfl⟩; rw [HV.out]
    go_wp2_with fail
    refine (epow_any _ _ _).mono ?_; rintro e w1 ⟨rfl, hb⟩
    go_wp2_with fail
    go_ret2
    exact ⟨ret_two e1.out.symm e2.out.symm, hb⟩
  | false =>
    have HV := Lib.hid hv
    have e1 := Lib.hid (show pubZ s = 0 by unfold pubZ; rw [hv]; rfl)
    have e2 := Lib.hid (show pubE s = 110 by unfold pubE; rw [hv]; rfl)
    clear hv
    go_enter Try.func11, Try.ntmps11
    go_wp2_with fail
    refine (sec_any _ _).mono ?_; rintro e w' ⟨rfl, rfl⟩; rw [HV.out]
    go_wp2_with fail
    go_ret2
    exact ⟨ret_two e1.out.symm e2.out.symm, Below.refl _ _⟩

set_option maxHeartbeats 400000 in
theorem join1_any (ok : Bool) (x : Int) (w : World) :
    Calls Try.prog 37 #[.bool ok, .int .i64 x] w fun e w' => e = .returned (.bool (ok && elB x)) ∧ w = w' := by
  cases ok with
  | true =>
    go_enter Try.func37, Try.ntmps37
    go_wp2_with fail
    refine (valid_any _ _).mono ?_; rintro e w' ⟨rfl, rfl⟩
    go_wp2_with fail
    go_ret
    exact ⟨ret_bool (by simp), rfl⟩
  | false =>
    go_enter Try.func37, Try.ntmps37
    go_wp2_with fail
    go_ret
    exact ⟨ret_bool (by simp), rfl⟩

/-- the ints of a slice -/
def IntsAt (w : World) (b off : Nat) (zs : List Int) : Prop := ∀ j, j < zs.length → w.cell? ⟨b, off + j, none⟩ = some (.int .i64 (zs.getD j 0))
theorem IntsAt.below {w w' : World} {n b off : Nat} {zs : List Int} (h : IntsAt w b off zs) (k : Below n w w') (hb : b < n) : IntsAt w' b off zs := fun j hj => (k.cell (p := ⟨b, off + j, none⟩) hb).trans (h j hj)

set_option maxHeartbeats 400000 in
theorem foldB_any (b off len cap : Nat) (zs : List Int) (w : World) (hz : len = zs.length) (hbig : len ≤ 9223372036854775807) (hc : IntsAt w b off zs) :
    Calls Try.prog 36 #[.slice (some ⟨b, off, none⟩) len cap, .bool true, .func (.func 37) #[] #[]] w fun e w' => e = .returned (.bool (zs.all elB)) ∧ w = w' := by
  have HZ := Lib.hid hz; clear hz
  have HC := Lib.hid hc; clear hc
  go_enter Try.func36, Try.ntmps36
  go_wp2
  go_loop [1, 11] (fun s i => ∃ k : Nat, k ≤ len ∧ i = .int .i64 k ∧ ∃ v : Bool, s = .bool v ∧ Hid (v = (zs.take k).all elB)) (fun _ i => len - (intOf i).toNat)
  case atStart => exact ⟨0, Nat.zero_le _, rfl, true, rfl, rfl⟩
  case round =>
    obtain ⟨k, hk, rfl, v, rfl, hv⟩ := hrel
    by_cases hlt : k < len
    · have hcell := HC.out k (by have := HZ.out; omega)
      have HT := Lib.hid (all_take elB zs k (by have := HZ.out; omega))
      generalize hx : zs.getD k 0 = x at hcell HT
      clear hx
      go_wp2_with fail
      refine (join1_any _ _ _).mono ?_; rintro e w' ⟨rfl, rfl⟩
      go_wp2_with fail
      go_round
      case rel => exact ⟨k + 1, by omega, by go_num, _, rfl, by rw [HT.out, ← hv.out]; rfl⟩
      case measure => simp [intOf]; omega
    · go_wp2
      go_ret
      exact ⟨ret_bool (by rw [hv.out, List.take_of_length_le (by have := HZ.out; omega)]), rfl⟩

theorem foldl_take (zs : List Int) (f : Int → Int → Int) (a : Int) (k : Nat) (h : k < zs.length) : (zs.take (k + 1)).foldl f a = f ((zs.take k).foldl f a) (zs.getD k 0) := by
  rw [List.take_succ_eq_append_getElem h, List.foldl_append]; simp [List.getD, h]

set_option maxHeartbeats 400000 in
theorem foldI_any (b off len cap : Nat) (zs : List Int) (a : Int) (w : World) (hz : len = zs.length) (hbig : len ≤ 9223372036854775807) (hc : IntsAt w b off zs) (hb : b < w.heap.size) :
    Calls Try.prog 38 #[.slice (some ⟨b, off, none⟩) len cap, .int .i64 a, .func (.func 39) #[] #[]] w fun e w' => e = .returned (.int .i64 (zs.foldl mulZ a)) ∧ Below w.heap.size w w' := by
  have HZ := Lib.hid hz; clear hz
  have HC := Lib.hid hc; clear hc
  go_enter Try.func38, Try.ntmps38
  go_wp2
  go_loopw [1, 11] (fun s i wr => ∃ k : Nat, k ≤ len ∧ i = .int .i64 k ∧ ∃ v : Int, s = .int .i64 v ∧ Hid (v = (zs.take k).foldl mulZ a) ∧ Hid (Below w.heap.size w wr)) (fun _ i _ => len - (intOf i).toNat)
  case atStart => exact ⟨0, Nat.zero_le _, rfl, a, rfl, rfl, Below.refl _ _⟩
  case round =>
    obtain ⟨k, hk, rfl, v, rfl, hv, hB⟩ := hrel
    by_cases hlt : k < len
    · have hcell := (HC.out.below hB.out hb) k (by have := HZ.out; omega)
      have HT := Lib.hid (foldl_take zs mulZ a k (by have := HZ.out; omega))
      generalize hx : zs.getD k 0 = x at hcell HT
      clear hx
      go_wp2_with fail
      refine (emul_any _ _ _).mono ?_; rintro e w1 ⟨rfl, hb1⟩
      have HB := Lib.hid hb1; clear hb1
      go_wp2_with fail
      go_roundw
      case rel => exact ⟨k + 1, by omega, by go_num, _, rfl, by rw [HT.out, ← hv.out]; rfl, bel_trans hB.out HB.out⟩
      case measure => simp [intOf]; omega
    · go_wp2
      go_ret
      exact ⟨ret_int (by rw [hv.out, List.take_of_length_le (by have := HZ.out; omega)]), hB.out⟩

def joinZ (zs : List Int) : Int := if zs.all elB then zs.foldl mulZ 1 else 0
def joinE (zs : List Int) : Int := if zs.all elB then 0 else 90

set_option maxHeartbeats 400000 in
theorem join_any (b off len cap : Nat) (zs : List Int) (w : World) (hz : len = zs.length) (hbig : len ≤ 9223372036854775807) (hc : IntsAt w b off zs) (hb : b < w.heap.size) :
    Calls Try.prog 13 #[.slice (some ⟨b, off, none⟩) len cap] w fun e w' => e = .returned (.tuple #[.int .i64 (joinZ zs), .int .i64 (joinE zs)]) ∧ Below w.heap.size w w' := by
  have HZ := Lib.hid hz; clear hz
  have HC := Lib.hid hc; clear hc
  cases hv : zs.all elB with
  | true =>
    have HV := Lib.hid hv
    have e1 := Lib.hid (show joinZ zs = zs.foldl mulZ 1 by unfold joinZ; rw [hv]; rfl)
    have e2 := Lib.hid (show joinE zs = 0 by unfold joinE; rw [hv]; rfl)
    clear hv
    go_enter Try.func13, Try.ntmps13
    go_wp2_with fail
    refine (foldB_any b off len cap zs _ HZ.out hbig HC.out).mono ?_; rintro e w' ⟨rfl, rfl⟩; rw [HV.out]
    go_wp2_with fail
    refine (foldI_any b off len cap zs 1 _ HZ.out hbig HC.out hb).mono ?_; rintro e w1 ⟨rfl, hb1⟩
    go_wp2_with fail
    go_ret2
    exact ⟨ret_two e1.out.symm e2.out.symm, hb1⟩
  | false =>
    have HV := Lib.hid hv
    have e1 := Lib.hid (show joinZ zs = 0 by unfold joinZ; rw [hv]; rfl)
    have e2 := Lib.hid (show joinE zs = 90 by unfold joinE; rw [hv]; rfl)
    clear hv
    go_enter Try.func13, Try.ntmps13
    go_wp2_with fail
    refine (foldB_any b off len cap zs _ HZ.out hbig HC.out).mono ?_; rintro e w' ⟨rfl, rfl⟩; rw [HV.out]
    go_wp2_with fail
    go_ret2
    exact ⟨ret_two e1.out.symm e2.out.symm, Below.refl _ _⟩
end Go.Proofs.Ytbmeljkdemdloaa
