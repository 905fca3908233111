/- The reference's Spend. -/
import Derived.Test.YtjdkdhpippapmaaGreatDoorStpPut
import Derived.Test.YtjdkdhpippapmaaGreatDoorStpSp
namespace Go.Proofs.YtjdkdhpippapmaaGreatDoor
open Go.RowKit
set_option linter.unusedVariables false
set_option linter.unusedSimpArgs false

theorem rfew_is (p : Option Addr) (n c : Nat) (v : Bool) (w : World) (hv : decide (n ≤ 40) = v) : Calls Tryz.prog 15 #[.slice p n c] w fun e w' => e = .returned (.bool v) ∧ w' = w := by
  subst hv
  by_cases h : n ≤ 40
  · have h1 : (n : Int) ≤ 40 := by omega
    rw [decide_eq_true h]
    go_enter Tryz.func15, Tryz.ntmps15
    go_wp2_with fail
    go_ret
    exact ⟨rfl, rfl⟩
  · have h1 : ¬ ((n : Int) ≤ 40) := by omega
    rw [decide_eq_false h]
    go_enter Tryz.func15, Tryz.ntmps15
    go_wp2_with fail
    go_ret
    exact ⟨rfl, rfl⟩
theorem rput_any (l : List (List Int)) (d : List Int) (i n c : Nat) (p : Option Addr) (w : World) (hd : Hid (Dgs l)) (hz : Hid (SrcL w p n c l)) (hn : n ≤ 4000) (ld : Hid (d.length = 32)) (hp : Hid (IsPos l d i)) :
    Calls Tryz.prog 45 #[.slice p n c, .agg (bv d).toArray] w fun e w' => ∃ v', e = .returned v' ∧ OwnR w' w.heap.size v' (n + 1) (putD l d i).flatten ∧ Below w.heap.size w w' := by
  have hnl := hz.out.1
  rcases Nat.eq_zero_or_pos n with h0 | h0
  · obtain rfl : l = [] := List.eq_nil_of_length_eq_zero (by omega)
    obtain rfl : i = 0 := by have := hp.out.1; simpa using this
    subst h0
    have e2 : (putD [] d 0).flatten = d := by simp [putD]
    rw [e2]
    have hcm : c ≤ 9223372036854775807 := by have := hz.out.2.2.1; unfold maxLen at this; omega
    cases p with
    | none =>
      obtain rfl : c = 0 := by
        rcases hz.out.2.2.2 with ⟨_, h⟩ | ⟨b, off, h, _⟩
        · exact h rfl
        · cases h
      exact rput_nil d w ld
    | some a => exact rput_emp a c hcm d w ld
  · obtain ⟨b, off, rfl, hlt, hb⟩ := hz.out.pos h0
    exact rput_some l d i n c b off w hd hz hn h0 hlt (Lib.hid hb) ld hp
set_option maxRecDepth 100000 in
set_option maxHeartbeats 4000000 in
theorem rspend_bad (key : Int) (zs : List Int) (nv c s : Int) (l : List (List Int)) (p : Option Addr) (n cap : Nat) (w : World) (hl : Hid (zs.length = 32)) (hr : Hid (∀ z ∈ zs, 0 ≤ z ∧ z ≤ 255)) (hd : Hid (Dgs l)) (hz : Hid (SrcL w p n cap l)) (hn2 : n ≤ 4000) (hv : Hid (IsChk key zs nv c s false)) :
    Calls Tryz.prog 17 #[.slice p n cap, .int .i64 key, .agg (stv zs nv c s).toArray] w fun e w' => e = .returned (.tuple #[.slice none 0 0, .int .i64 370]) ∧ Below w.heap.size w w' := by
  have S0 := Lib.hid (SBlk.box w 27 nv c s hl.out)
  have B0 := Lib.hid (bel_alloc1 w (.cells (stv zs nv c s).toArray 27))
  have hnl := Lib.hid hz.out.1
  go_enter Tryz.func17, Tryz.ntmps17
  go_wp2_with (first
    | (refine list_loadApi (by rfl) (.tmp 5) rfl w.heap.size 0 rfl zs nv c s hl.out S0.out.1.range ?_)
    | (go_at_call 14; refine (rscheck_any key zs nv c s false _ hl hr hv).mono ?_; rintro e w1 ⟨rfl, hb⟩; have B1 := Lib.hid (bel_trans B0.out hb); have S1 := Lib.hid (S0.out.bel hb); clear hb))
  go_ret2
  exact ⟨rfl, B1.out⟩
set_option maxRecDepth 100000 in
set_option maxHeartbeats 4000000 in
theorem rspend_uns (key : Int) (zs : List Int) (nv c s : Int) (l : List (List Int)) (p : Option Addr) (n cap : Nat) (w : World) (hl : Hid (zs.length = 32)) (hr : Hid (∀ z ∈ zs, 0 ≤ z ∧ z ≤ 255)) (hd : Hid (Dgs l)) (hz : Hid (SrcL w p n cap l)) (hn2 : n ≤ 4000) (hv : Hid (IsChk key zs nv c s true)) (hs : Hid (¬ adjOK l)) :
    Calls Tryz.prog 17 #[.slice p n cap, .int .i64 key, .agg (stv zs nv c s).toArray] w fun e w' => e = .returned (.tuple #[.slice none 0 0, .int .i64 370]) ∧ Below w.heap.size w w' := by
  have S0 := Lib.hid (SBlk.box w 27 nv c s hl.out)
  have B0 := Lib.hid (bel_alloc1 w (.cells (stv zs nv c s).toArray 27))
  have hnl := Lib.hid hz.out.1
  go_enter Tryz.func17, Tryz.ntmps17
  have HU := Lib.hid (show (false = true ↔ adjOK l) from ⟨(fun h => by cases h), fun h => absurd h hs.out⟩)
  go_wp2_with (first
    | (refine list_loadApi (by rfl) (.tmp 5) rfl w.heap.size 0 rfl zs nv c s hl.out S0.out.1.range ?_)
    | (go_at_call 14; refine (rscheck_any key zs nv c s true _ hl hr hv).mono ?_; rintro e w1 ⟨rfl, hb⟩; have B1 := Lib.hid (bel_trans B0.out hb); have S1 := Lib.hid (S0.out.bel hb); clear hb)
    | (go_at_call 28; refine (rused_is l p n cap false _ hd (Lib.hid (hz.out.below B1.out)) hn2 HU).mono ?_; rintro e w2 ⟨rfl, hb⟩; have B2 := Lib.hid (bel_trans B1.out hb); have S2 := Lib.hid (S1.out.bel hb); clear hb))
  go_ret2
  exact ⟨rfl, B2.out⟩
set_option maxRecDepth 100000 in
set_option maxHeartbeats 4000000 in
theorem rspend_found (key : Int) (zs : List Int) (nv c s : Int) (l : List (List Int)) (p : Option Addr) (n cap : Nat) (w : World) (hl : Hid (zs.length = 32)) (hr : Hid (∀ z ∈ zs, 0 ≤ z ∧ z ≤ 255)) (hd : Hid (Dgs l)) (hz : Hid (SrcL w p n cap l)) (hn2 : n ≤ 4000) (hv : Hid (IsChk key zs nv c s true)) (hs : Hid (adjOK l)) (hf : Hid (hasD l zs = true)) :
    Calls Tryz.prog 17 #[.slice p n cap, .int .i64 key, .agg (stv zs nv c s).toArray] w fun e w' => e = .returned (.tuple #[.slice none 0 0, .int .i64 161]) ∧ Below w.heap.size w w' := by
  have S0 := Lib.hid (SBlk.box w 27 nv c s hl.out)
  have B0 := Lib.hid (bel_alloc1 w (.cells (stv zs nv c s).toArray 27))
  have hnl := Lib.hid hz.out.1
  go_enter Tryz.func17, Tryz.ntmps17
  go_wp2_with (first
    | (refine list_loadApi (by rfl) (.tmp 5) rfl w.heap.size 0 rfl zs nv c s hl.out S0.out.1.range ?_)
    | (go_at_call 14; refine (rscheck_any key zs nv c s true _ hl hr hv).mono ?_; rintro e w1 ⟨rfl, hb⟩; have B1 := Lib.hid (bel_trans B0.out hb); have S1 := Lib.hid (S0.out.bel hb); clear hb)
    | (go_at_call 28; refine (rused_is l p n cap true _ hd (Lib.hid (hz.out.below B1.out)) hn2 (Lib.hid ⟨fun _ => hs.out, fun _ => rfl⟩)).mono ?_; rintro e w2 ⟨rfl, hb⟩; have B2 := Lib.hid (bel_trans B1.out hb); have S2 := Lib.hid (S1.out.bel hb); clear hb)
    | (refine list_loadM (by rfl) (.tmp 18) rfl w.heap.size 0 rfl zs S2.out.bytes hl.out ?_)
    | (go_at_call 44; refine (rhas_is l zs p n cap true _ hd (Lib.hid (hz.out.below B2.out)) hn2 hl hf).mono ?_; rintro e w3 ⟨rfl, hb⟩; have B3 := Lib.hid (bel_trans B2.out hb); have S3 := Lib.hid (S2.out.bel hb); clear hb))
  go_ret2
  exact ⟨rfl, B3.out⟩
set_option maxRecDepth 100000 in
set_option maxHeartbeats 4000000 in
theorem rspend_ok (key : Int) (zs : List Int) (nv c s : Int) (l : List (List Int)) (p : Option Addr) (n cap : Nat) (w : World) (hl : Hid (zs.length = 32)) (hr : Hid (∀ z ∈ zs, 0 ≤ z ∧ z ≤ 255)) (hd : Hid (Dgs l)) (hz : Hid (SrcL w p n cap l)) (hn2 : n ≤ 4000) (hv : Hid (IsChk key zs nv c s true)) (hs : Hid (adjOK l)) (hf : Hid (hasD l zs = false)) (i : Nat) (hp : Hid (IsPos l zs i)) :
    Calls Tryz.prog 17 #[.slice p n cap, .int .i64 key, .agg (stv zs nv c s).toArray] w fun e w' => ∃ v', e = .returned (.tuple #[v', .int .i64 0]) ∧ OwnR w' w.heap.size v' (n + 1) (putD l zs i).flatten ∧ Below w.heap.size w w' := by
  have S0 := Lib.hid (SBlk.box w 27 nv c s hl.out)
  have B0 := Lib.hid (bel_alloc1 w (.cells (stv zs nv c s).toArray 27))
  have hnl := Lib.hid hz.out.1
  go_enter Tryz.func17, Tryz.ntmps17
  have h4 : (n : Int) < 4096 := by omega
  go_wp2_with (first
    | (refine list_loadApi (by rfl) (.tmp 5) rfl w.heap.size 0 rfl zs nv c s hl.out S0.out.1.range ?_)
    | (go_at_call 14; refine (rscheck_any key zs nv c s true _ hl hr hv).mono ?_; rintro e w1 ⟨rfl, hb⟩; have B1 := Lib.hid (bel_trans B0.out hb); have S1 := Lib.hid (S0.out.bel hb); clear hb)
    | (go_at_call 28; refine (rused_is l p n cap true _ hd (Lib.hid (hz.out.below B1.out)) hn2 (Lib.hid ⟨fun _ => hs.out, fun _ => rfl⟩)).mono ?_; rintro e w2 ⟨rfl, hb⟩; have B2 := Lib.hid (bel_trans B1.out hb); have S2 := Lib.hid (S1.out.bel hb); clear hb)
    | (refine list_loadM (by rfl) (.tmp 18) rfl w.heap.size 0 rfl zs S2.out.bytes hl.out ?_)
    | (go_at_call 44; refine (rhas_is l zs p n cap false _ hd (Lib.hid (hz.out.below B2.out)) hn2 hl hf).mono ?_; rintro e w3 ⟨rfl, hb⟩; have B3 := Lib.hid (bel_trans B2.out hb); have S3 := Lib.hid (S2.out.bel hb); clear hb)
    | (refine list_loadM (by rfl) (.tmp 25) rfl w.heap.size 0 rfl zs S3.out.bytes hl.out ?_)
    | (go_at_call 45; refine (rput_any l zs i n cap p _ hd (Lib.hid (hz.out.below B3.out)) hn2 hl hp).mono ?_; rintro e w4 ⟨v4, rfl, o4, hb⟩; have B4 := Lib.hid (bel_trans B3.out hb); have O4 := Lib.hid (ownR_base o4 B3.out.size); clear hb o4))
  go_ret2
  exact ⟨v4, rfl, O4.out, B4.out⟩
end Go.Proofs.YtjdkdhpippapmaaGreatDoor
