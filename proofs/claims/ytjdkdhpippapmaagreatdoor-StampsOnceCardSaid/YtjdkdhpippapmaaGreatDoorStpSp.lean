/- Package stamps: Spend. -/
import Derived.Test.YtjdkdhpippapmaaGreatDoorStpZA
import Derived.Test.YtjdkdhpippapmaaGreatDoorDigBuC
import Derived.Test.YtjdkdhpippapmaaGreatDoorStpChk
import Derived.Test.YtjdkdhpippapmaaGreatDoorStpZC
namespace Go.Proofs.YtjdkdhpippapmaaGreatDoor
open Go.RowKit
set_option linter.unusedVariables false
set_option linter.unusedSimpArgs false

/-- is a stamp right? -/
def IsChk (key : Int) (zs : List Int) (n c s : Int) (v : Bool) : Prop := (valB n = false ∧ v = false) ∨ (valB n = true ∧ IsVer key (encL [.text zs, .int n]) c s v)
theorem scheck_any (key : Int) (zs : List Int) (n c s : Int) (v : Bool) (w : World) (hl : Hid (zs.length = 32)) (hr : Hid (∀ z ∈ zs, 0 ≤ z ∧ z ≤ 255)) (hk : Hid (KeysAt w)) (hv : Hid (IsChk key zs n c s v)) :
    Calls Tryz.prog 13 #[.int .i64 key, .agg (stv zs n c s).toArray] w fun e w' => e = .returned (.bool v) ∧ Below w.heap.size w w' := by
  rcases hv.out with ⟨h, rfl⟩ | ⟨h, h2⟩
  · exact scheck_no key zs n c s w hl (Lib.hid h)
  · have hok := st_ok hl.out hr.out h
    exact scheck_is key zs n c s v w hl (Lib.hid h) (Lib.hid hok) (Lib.hid (st_tx hl.out hok)) hk (Lib.hid h2)
theorem rscheck_any (key : Int) (zs : List Int) (n c s : Int) (v : Bool) (w : World) (hl : Hid (zs.length = 32)) (hr : Hid (∀ z ∈ zs, 0 ≤ z ∧ z ≤ 255)) (hv : Hid (IsChk key zs n c s v)) :
    Calls Tryz.prog 14 #[.int .i64 key, .agg (stv zs n c s).toArray] w fun e w' => e = .returned (.bool v) ∧ Below w.heap.size w w' := by
  rcases hv.out with ⟨h, rfl⟩ | ⟨h, h2⟩
  · exact rscheck_no key zs n c s w hl (Lib.hid h)
  · have hok := st_ok hl.out hr.out h
    exact rscheck_is key zs n c s w hl v (Lib.hid h) (Lib.hid hok) (Lib.hid (st_tx hl.out hok)) (Lib.hid h2)
theorem srcL_clip {w : World} {p : Option Addr} {n c : Nat} {l : List (List Int)} (h : SrcL w p n c l) : SrcL w p n n l := by
  obtain ⟨h1, h2, h3, h4⟩ := h
  exact ⟨h1, Nat.le_refl _, by omega, h4.imp (fun h => ⟨h.1, fun _ => h.1⟩) id⟩
theorem ins_any (l : List (List Int)) (d : List Int) (i n : Nat) (p : Option Addr) (db : Nat) (w : World) (hd : Hid (Dgs l)) (hz : Hid (SrcL w p n n l)) (hn : n ≤ 4000) (ld : Hid (d.length = 32)) (hp : Hid (IsPos l d i)) (hx : Hid (Dg w db d)) :
    Calls Tryz.prog 42 #[.slice p n n, .int .i64 i, .slice (some ⟨db, 0, none⟩) 1 1] w fun e w' => ∃ v', e = .returned v' ∧ OwnR w' w.heap.size v' (n + 1) (putD l d i).flatten ∧ Below w.heap.size w w' := by
  have hnl := hz.out.1
  have hi := hp.out.1
  have e1 : (putD l d i).flatten = (l.take i).flatten ++ (d ++ (l.drop i).flatten) := by simp [putD]
  rcases Nat.eq_zero_or_pos n with h0 | h0
  · obtain rfl : l = [] := List.eq_nil_of_length_eq_zero (by omega)
    obtain rfl : i = 0 := by simpa using hi
    subst h0
    have e2 : (putD [] d 0).flatten = d := by simp [putD]
    rw [e2]
    cases p with
    | none => exact ins_nil [] d db w rfl hx
    | some a => exact ins_emp a d db w hx
  · obtain ⟨b, off, rfl, hlt, hb⟩ := hz.out.pos h0
    rcases Nat.lt_or_ge i n with h1 | h1
    · have hx1 : (l.take i).flatten.length = i * 32 := by rw [flat_len (hd.out.take i), List.length_take]; omega
      have hy1 : (l.drop i).flatten.length = (n - i) * 32 := by rw [flat_len (hd.out.drop i), List.length_drop]; omega
      have := ins_mid b off n i (l.take i).flatten (l.drop i).flatten d db w h1 (by omega) hlt (Lib.hid hx1) (Lib.hid hy1) (Lib.hid (BytesAt.take' hd.out hb i)) (Lib.hid (BytesAt.drop' hd.out hb hi)) hx
      rw [e1, ← List.append_assoc]
      exact this
    · obtain rfl : i = n := by omega
      have hl1 : l.flatten.length = i * 32 := by rw [flat_len hd.out]; omega
      have := ins_end b off i l.flatten d db w h0 (by omega) (Lib.hid hl1) (Lib.hid hb) hx
      rw [e1, List.take_of_length_le (by omega), List.drop_of_length_le (by omega)]
      simpa using this
set_option maxRecDepth 100000 in
set_option maxHeartbeats 4000000 in
theorem spend_uns (key : Int) (zs : List Int) (nv c s : Int) (l : List (List Int)) (p : Option Addr) (n cap : Nat) (w : World) (hl : Hid (zs.length = 32)) (hr : Hid (∀ z ∈ zs, 0 ≤ z ∧ z ≤ 255)) (hd : Hid (Dgs l)) (hz : Hid (SrcL w p n cap l)) (hn2 : n ≤ 4000) (hk : Hid (KeysAt w)) (hs : Hid (¬ adjOK l)) :
    Calls Tryz.prog 16 #[.slice p n cap, .int .i64 key, .agg (stv zs nv c s).toArray] w fun e w' => e = .returned (.tuple #[.slice none 0 0, .int .i64 370]) ∧ Below w.heap.size w w' := by
  have U0 := Lib.hid ((Blk.new w #[.slice p n cap] 36).alloc (.cells (stv zs nv c s).toArray 27))
  have S0 := Lib.hid (show SBlk ((w.alloc (.cells #[.slice p n cap] 36)).alloc (.cells (stv zs nv c s).toArray 27)) (w.heap.size + 1) 27 zs nv c s by have := SBlk.box (w.alloc (.cells #[.slice p n cap] 36)) 27 nv c s hl.out; simpa using this)
  have B0 := Lib.hid (show Below w.heap.size w ((w.alloc (.cells #[.slice p n cap] 36)).alloc (.cells (stv zs nv c s).toArray 27)) from (bel_alloc1 w _).alloc (by simp) _)
  have hnl := Lib.hid hz.out.1
  go_enter Tryz.func16, Tryz.ntmps16
  go_upto_region 3 with fail
  go_loopw [9] (fun y wr => ∃ k : Nat, 1 ≤ k ∧ (k ≤ n ∨ k = 1) ∧ y = .int .i64 k ∧ (∀ j, j + 1 < k → j + 1 < n → ltD (l.getD j []) (l.getD (j + 1) []) = true) ∧ Hid (Below w.heap.size w wr) ∧ Hid (Blk wr w.heap.size #[.slice p n cap] 36) ∧ Hid (SBlk wr (w.heap.size + 1) 27 zs nv c s)) (fun y _ => n + 1 - (intOf y).toNat)
  case atStart => exact ⟨1, by omega, .inr rfl, rfl, fun j h _ => by omega, B0, U0, S0⟩
  case round =>
    clear U0 S0 B0
    obtain ⟨k, hk1, hkn, rfl, hadj, HB, HU, HS⟩ := hrel
    have cu := HU.out.cell 0
    by_cases hkl : k < n
    · have t1 : (k : Int) < n := by omega
      obtain ⟨j, rfl⟩ : ∃ j, k = j + 1 := ⟨k - 1, by omega⟩
      obtain ⟨b, off, rfl, hlt, hb⟩ := hz.out.pos (by omega)
      have hj1 : j < l.length := by rw [← hnl.out]; omega
      have hj2 : j + 1 < l.length := by rw [← hnl.out]; omega
      have J1 := Lib.hid hj1
      have J2 := Lib.hid hj2
      have ADJ := Lib.hid hadj
      have LT := Lib.hid hlt
      have HBY := Lib.hid hb
      clear hj1 hj2 hadj hlt hb
      obtain ⟨vv, hvv⟩ : ∃ v, ltD (l.getD j []) (l.getD (j + 1) []) = v := ⟨_, rfl⟩
      have HVV := Lib.hid hvv
      clear hvv
      have ej : ((j + 1 : Nat) : Int) = (j : Int) + 1 := by omega
      go_upto_region 5 with fail
      rw [ej]
      cases vv with
      | false =>
        go_wp2_with (go_at_call 38; refine (inc_is l j n cap b off w.heap.size wr hd (Lib.hid (hz.out.below HB.out)) (Nat.lt_of_lt_of_le LT.out HB.out.size) (Lib.hid (HBY.out.below HB.out LT.out)) hkl J1.out J2.out HU).mono ?_; rintro e w3 ⟨rfl, hb⟩; rw [HVV.out]; have B3 := Lib.hid (bel_trans HB.out hb); have U3 := Lib.hid (HU.out.below hb HU.out.lt); have S3 := Lib.hid (HS.out.bel hb); clear hb)
        go_ret2
        exact ⟨rfl, B3.out⟩
      | true =>
        go_wp2_with (go_at_call 38; refine (inc_is l j n cap b off w.heap.size wr hd (Lib.hid (hz.out.below HB.out)) (Nat.lt_of_lt_of_le LT.out HB.out.size) (Lib.hid (HBY.out.below HB.out LT.out)) hkl J1.out J2.out HU).mono ?_; rintro e w3 ⟨rfl, hb⟩; rw [HVV.out]; have B3 := Lib.hid (bel_trans HB.out hb); have U3 := Lib.hid (HU.out.below hb HU.out.lt); have S3 := Lib.hid (HS.out.bel hb); clear hb)
        go_roundw
        case rel =>
          refine ⟨j + 1 + 1, by omega, .inl (by omega), by simp, fun q h1 h2 => ?_, B3, U3, S3⟩
          rcases Nat.lt_or_ge (q + 1) (j + 1) with hq | hq
          · exact ADJ.out q hq h2
          · obtain rfl : q = j := by omega
            exact HVV.out
        case measure => simp [intOf]; omega
    · have t1 : ¬ ((k : Int) < n) := by omega
      have hadj' : adjOK l := fun j hj => hadj j (by have := hnl.out; omega) (by rw [hnl.out]; exact hj)
      clear hadj
      exact absurd hadj' hs.out
set_option maxRecDepth 100000 in
set_option maxHeartbeats 4000000 in
theorem spend_wrong (key : Int) (zs : List Int) (nv c s : Int) (l : List (List Int)) (p : Option Addr) (n cap : Nat) (w : World) (hl : Hid (zs.length = 32)) (hr : Hid (∀ z ∈ zs, 0 ≤ z ∧ z ≤ 255)) (hd : Hid (Dgs l)) (hz : Hid (SrcL w p n cap l)) (hn2 : n ≤ 4000) (hk : Hid (KeysAt w)) (hs : Hid (adjOK l)) (hv : Hid (IsChk key zs nv c s false)) :
    Calls Tryz.prog 16 #[.slice p n cap, .int .i64 key, .agg (stv zs nv c s).toArray] w fun e w' => e = .returned (.tuple #[.slice none 0 0, .int .i64 370]) ∧ Below w.heap.size w w' := by
  have U0 := Lib.hid ((Blk.new w #[.slice p n cap] 36).alloc (.cells (stv zs nv c s).toArray 27))
  have S0 := Lib.hid (show SBlk ((w.alloc (.cells #[.slice p n cap] 36)).alloc (.cells (stv zs nv c s).toArray 27)) (w.heap.size + 1) 27 zs nv c s by have := SBlk.box (w.alloc (.cells #[.slice p n cap] 36)) 27 nv c s hl.out; simpa using this)
  have B0 := Lib.hid (show Below w.heap.size w ((w.alloc (.cells #[.slice p n cap] 36)).alloc (.cells (stv zs nv c s).toArray 27)) from (bel_alloc1 w _).alloc (by simp) _)
  have hnl := Lib.hid hz.out.1
  go_enter Tryz.func16, Tryz.ntmps16
  go_upto_region 3 with fail
  go_loopw [9] (fun y wr => ∃ k : Nat, 1 ≤ k ∧ (k ≤ n ∨ k = 1) ∧ y = .int .i64 k ∧ (∀ j, j + 1 < k → j + 1 < n → ltD (l.getD j []) (l.getD (j + 1) []) = true) ∧ Hid (Below w.heap.size w wr) ∧ Hid (Blk wr w.heap.size #[.slice p n cap] 36) ∧ Hid (SBlk wr (w.heap.size + 1) 27 zs nv c s)) (fun y _ => n + 1 - (intOf y).toNat)
  case atStart => exact ⟨1, by omega, .inr rfl, rfl, fun j h _ => by omega, B0, U0, S0⟩
  case round =>
    clear U0 S0 B0
    obtain ⟨k, hk1, hkn, rfl, hadj, HB, HU, HS⟩ := hrel
    have cu := HU.out.cell 0
    by_cases hkl : k < n
    · have t1 : (k : Int) < n := by omega
      obtain ⟨j, rfl⟩ : ∃ j, k = j + 1 := ⟨k - 1, by omega⟩
      obtain ⟨b, off, rfl, hlt, hb⟩ := hz.out.pos (by omega)
      have hj1 : j < l.length := by rw [← hnl.out]; omega
      have hj2 : j + 1 < l.length := by rw [← hnl.out]; omega
      have J1 := Lib.hid hj1
      have J2 := Lib.hid hj2
      have ADJ := Lib.hid hadj
      have LT := Lib.hid hlt
      have HBY := Lib.hid hb
      clear hj1 hj2 hadj hlt hb
      obtain ⟨vv, hvv⟩ : ∃ v, ltD (l.getD j []) (l.getD (j + 1) []) = v := ⟨_, rfl⟩
      have HVV := Lib.hid hvv
      clear hvv
      have ej : ((j + 1 : Nat) : Int) = (j : Int) + 1 := by omega
      go_upto_region 5 with fail
      rw [ej]
      cases vv with
      | false => have h1 := hs.out j (by rw [← hnl.out]; omega); rw [HVV.out] at h1; cases h1
      | true =>
        go_wp2_with (go_at_call 38; refine (inc_is l j n cap b off w.heap.size wr hd (Lib.hid (hz.out.below HB.out)) (Nat.lt_of_lt_of_le LT.out HB.out.size) (Lib.hid (HBY.out.below HB.out LT.out)) hkl J1.out J2.out HU).mono ?_; rintro e w3 ⟨rfl, hb⟩; rw [HVV.out]; have B3 := Lib.hid (bel_trans HB.out hb); have U3 := Lib.hid (HU.out.below hb HU.out.lt); have S3 := Lib.hid (HS.out.bel hb); clear hb)
        go_roundw
        case rel =>
          refine ⟨j + 1 + 1, by omega, .inl (by omega), by simp, fun q h1 h2 => ?_, B3, U3, S3⟩
          rcases Nat.lt_or_ge (q + 1) (j + 1) with hq | hq
          · exact ADJ.out q hq h2
          · obtain rfl : q = j := by omega
            exact HVV.out
        case measure => simp [intOf]; omega
    · have t1 : ¬ ((k : Int) < n) := by omega
      have hadj' : adjOK l := fun j hj => hadj j (by have := hnl.out; omega) (by rw [hnl.out]; exact hj)
      clear hadj
      go_wp2_with (first
        | (refine list_loadApi (by rfl) (.tmp 5) rfl (w.heap.size + 1) 0 rfl zs nv c s hl.out HS.out.1.range ?_)
        | (go_at_call 13; refine (scheck_any key zs nv c s false _ hl hr (Lib.hid (hk.out.below HB.out)) hv).mono ?_; rintro e w4 ⟨rfl, hb⟩; have B4 := Lib.hid (bel_trans HB.out hb); have U4 := Lib.hid (HU.out.below hb HU.out.lt); have S4 := Lib.hid (HS.out.bel hb); have cu4 := U4.out.cell 0; clear hb))
      go_ret2
      exact ⟨rfl, B4.out⟩
set_option maxRecDepth 100000 in
set_option maxHeartbeats 4000000 in
theorem spend_found (key : Int) (zs : List Int) (nv c s : Int) (l : List (List Int)) (p : Option Addr) (n cap : Nat) (w : World) (hl : Hid (zs.length = 32)) (hr : Hid (∀ z ∈ zs, 0 ≤ z ∧ z ≤ 255)) (hd : Hid (Dgs l)) (hz : Hid (SrcL w p n cap l)) (hn2 : n ≤ 4000) (hk : Hid (KeysAt w)) (hs : Hid (adjOK l)) (hv : Hid (IsChk key zs nv c s true)) (i : Nat) (hp : Hid (IsPos l zs i)) (hf : Hid (hasD l zs = true)) :
    Calls Tryz.prog 16 #[.slice p n cap, .int .i64 key, .agg (stv zs nv c s).toArray] w fun e w' => e = .returned (.tuple #[.slice none 0 0, .int .i64 161]) ∧ Below w.heap.size w w' := by
  have U0 := Lib.hid ((Blk.new w #[.slice p n cap] 36).alloc (.cells (stv zs nv c s).toArray 27))
  have S0 := Lib.hid (show SBlk ((w.alloc (.cells #[.slice p n cap] 36)).alloc (.cells (stv zs nv c s).toArray 27)) (w.heap.size + 1) 27 zs nv c s by have := SBlk.box (w.alloc (.cells #[.slice p n cap] 36)) 27 nv c s hl.out; simpa using this)
  have B0 := Lib.hid (show Below w.heap.size w ((w.alloc (.cells #[.slice p n cap] 36)).alloc (.cells (stv zs nv c s).toArray 27)) from (bel_alloc1 w _).alloc (by simp) _)
  have hnl := Lib.hid hz.out.1
  go_enter Tryz.func16, Tryz.ntmps16
  go_upto_region 3 with fail
  go_loopw [9] (fun y wr => ∃ k : Nat, 1 ≤ k ∧ (k ≤ n ∨ k = 1) ∧ y = .int .i64 k ∧ (∀ j, j + 1 < k → j + 1 < n → ltD (l.getD j []) (l.getD (j + 1) []) = true) ∧ Hid (Below w.heap.size w wr) ∧ Hid (Blk wr w.heap.size #[.slice p n cap] 36) ∧ Hid (SBlk wr (w.heap.size + 1) 27 zs nv c s)) (fun y _ => n + 1 - (intOf y).toNat)
  case atStart => exact ⟨1, by omega, .inr rfl, rfl, fun j h _ => by omega, B0, U0, S0⟩
  case round =>
    clear U0 S0 B0
    obtain ⟨k, hk1, hkn, rfl, hadj, HB, HU, HS⟩ := hrel
    have cu := HU.out.cell 0
    by_cases hkl : k < n
    · have t1 : (k : Int) < n := by omega
      obtain ⟨j, rfl⟩ : ∃ j, k = j + 1 := ⟨k - 1, by omega⟩
      obtain ⟨b, off, rfl, hlt, hb⟩ := hz.out.pos (by omega)
      have hj1 : j < l.length := by rw [← hnl.out]; omega
      have hj2 : j + 1 < l.length := by rw [← hnl.out]; omega
      have J1 := Lib.hid hj1
      have J2 := Lib.hid hj2
      have ADJ := Lib.hid hadj
      have LT := Lib.hid hlt
      have HBY := Lib.hid hb
      clear hj1 hj2 hadj hlt hb
      obtain ⟨vv, hvv⟩ : ∃ v, ltD (l.getD j []) (l.getD (j + 1) []) = v := ⟨_, rfl⟩
      have HVV := Lib.hid hvv
      clear hvv
      have ej : ((j + 1 : Nat) : Int) = (j : Int) + 1 := by omega
      go_upto_region 5 with fail
      rw [ej]
      cases vv with
      | false => have h1 := hs.out j (by rw [← hnl.out]; omega); rw [HVV.out] at h1; cases h1
      | true =>
        go_wp2_with (go_at_call 38; refine (inc_is l j n cap b off w.heap.size wr hd (Lib.hid (hz.out.below HB.out)) (Nat.lt_of_lt_of_le LT.out HB.out.size) (Lib.hid (HBY.out.below HB.out LT.out)) hkl J1.out J2.out HU).mono ?_; rintro e w3 ⟨rfl, hb⟩; rw [HVV.out]; have B3 := Lib.hid (bel_trans HB.out hb); have U3 := Lib.hid (HU.out.below hb HU.out.lt); have S3 := Lib.hid (HS.out.bel hb); clear hb)
        go_roundw
        case rel =>
          refine ⟨j + 1 + 1, by omega, .inl (by omega), by simp, fun q h1 h2 => ?_, B3, U3, S3⟩
          rcases Nat.lt_or_ge (q + 1) (j + 1) with hq | hq
          · exact ADJ.out q hq h2
          · obtain rfl : q = j := by omega
            exact HVV.out
        case measure => simp [intOf]; omega
    · have t1 : ¬ ((k : Int) < n) := by omega
      have hadj' : adjOK l := fun j hj => hadj j (by have := hnl.out; omega) (by rw [hnl.out]; exact hj)
      clear hadj
      go_wp2_with (first
        | (refine list_loadApi (by rfl) (.tmp 5) rfl (w.heap.size + 1) 0 rfl zs nv c s hl.out HS.out.1.range ?_)
        | (go_at_call 13; refine (scheck_any key zs nv c s true _ hl hr (Lib.hid (hk.out.below HB.out)) hv).mono ?_; rintro e w4 ⟨rfl, hb⟩; have B4 := Lib.hid (bel_trans HB.out hb); have U4 := Lib.hid (HU.out.below hb HU.out.lt); have S4 := Lib.hid (HS.out.bel hb); have cu4 := U4.out.cell 0; clear hb)
        | (refine list_loadM (by rfl) (.tmp 29) rfl (w.heap.size + 1) 0 rfl zs S4.out.bytes hl.out ?_)
        | (go_at_call 40; refine (bs_any l zs i n cap p w4 hd (Lib.hid (hz.out.below B4.out)) (by omega) hl hr hs hp true hf).mono ?_; rintro e w5 ⟨rfl, hb⟩; have B5 := Lib.hid (bel_trans B4.out hb); have U5 := Lib.hid (U4.out.below hb U4.out.lt); have S5 := Lib.hid (S4.out.bel hb); have cu5 := U5.out.cell 0; clear hb))
      go_ret2
      exact ⟨rfl, B5.out⟩
set_option maxRecDepth 100000 in
set_option maxHeartbeats 4000000 in
theorem spend_ok (key : Int) (zs : List Int) (nv c s : Int) (l : List (List Int)) (p : Option Addr) (n cap : Nat) (w : World) (hl : Hid (zs.length = 32)) (hr : Hid (∀ z ∈ zs, 0 ≤ z ∧ z ≤ 255)) (hd : Hid (Dgs l)) (hz : Hid (SrcL w p n cap l)) (hn2 : n ≤ 4000) (hk : Hid (KeysAt w)) (hs : Hid (adjOK l)) (hv : Hid (IsChk key zs nv c s true)) (i : Nat) (hp : Hid (IsPos l zs i)) (hf : Hid (hasD l zs = false)) :
    Calls Tryz.prog 16 #[.slice p n cap, .int .i64 key, .agg (stv zs nv c s).toArray] w fun e w' => ∃ v', e = .returned (.tuple #[v', .int .i64 0]) ∧ OwnR w' w.heap.size v' (n + 1) (putD l zs i).flatten ∧ Below w.heap.size w w' := by
  have U0 := Lib.hid ((Blk.new w #[.slice p n cap] 36).alloc (.cells (stv zs nv c s).toArray 27))
  have S0 := Lib.hid (show SBlk ((w.alloc (.cells #[.slice p n cap] 36)).alloc (.cells (stv zs nv c s).toArray 27)) (w.heap.size + 1) 27 zs nv c s by have := SBlk.box (w.alloc (.cells #[.slice p n cap] 36)) 27 nv c s hl.out; simpa using this)
  have B0 := Lib.hid (show Below w.heap.size w ((w.alloc (.cells #[.slice p n cap] 36)).alloc (.cells (stv zs nv c s).toArray 27)) from (bel_alloc1 w _).alloc (by simp) _)
  have hnl := Lib.hid hz.out.1
  go_enter Tryz.func16, Tryz.ntmps16
  go_upto_region 3 with fail
  go_loopw [9] (fun y wr => ∃ k : Nat, 1 ≤ k ∧ (k ≤ n ∨ k = 1) ∧ y = .int .i64 k ∧ (∀ j, j + 1 < k → j + 1 < n → ltD (l.getD j []) (l.getD (j + 1) []) = true) ∧ Hid (Below w.heap.size w wr) ∧ Hid (Blk wr w.heap.size #[.slice p n cap] 36) ∧ Hid (SBlk wr (w.heap.size + 1) 27 zs nv c s)) (fun y _ => n + 1 - (intOf y).toNat)
  case atStart => exact ⟨1, by omega, .inr rfl, rfl, fun j h _ => by omega, B0, U0, S0⟩
  case round =>
    clear U0 S0 B0
    obtain ⟨k, hk1, hkn, rfl, hadj, HB, HU, HS⟩ := hrel
    have cu := HU.out.cell 0
    by_cases hkl : k < n
    · have t1 : (k : Int) < n := by omega
      obtain ⟨j, rfl⟩ : ∃ j, k = j + 1 := ⟨k - 1, by omega⟩
      obtain ⟨b, off, rfl, hlt, hb⟩ := hz.out.pos (by omega)
      have hj1 : j < l.length := by rw [← hnl.out]; omega
      have hj2 : j + 1 < l.length := by rw [← hnl.out]; omega
      have J1 := Lib.hid hj1
      have J2 := Lib.hid hj2
      have ADJ := Lib.hid hadj
      have LT := Lib.hid hlt
      have HBY := Lib.hid hb
      clear hj1 hj2 hadj hlt hb
      obtain ⟨vv, hvv⟩ : ∃ v, ltD (l.getD j []) (l.getD (j + 1) []) = v := ⟨_, rfl⟩
      have HVV := Lib.hid hvv
      clear hvv
      have ej : ((j + 1 : Nat) : Int) = (j : Int) + 1 := by omega
      go_upto_region 5 with fail
      rw [ej]
      cases vv with
      | false => have h1 := hs.out j (by rw [← hnl.out]; omega); rw [HVV.out] at h1; cases h1
      | true =>
        go_wp2_with (go_at_call 38; refine (inc_is l j n cap b off w.heap.size wr hd (Lib.hid (hz.out.below HB.out)) (Nat.lt_of_lt_of_le LT.out HB.out.size) (Lib.hid (HBY.out.below HB.out LT.out)) hkl J1.out J2.out HU).mono ?_; rintro e w3 ⟨rfl, hb⟩; rw [HVV.out]; have B3 := Lib.hid (bel_trans HB.out hb); have U3 := Lib.hid (HU.out.below hb HU.out.lt); have S3 := Lib.hid (HS.out.bel hb); clear hb)
        go_roundw
        case rel =>
          refine ⟨j + 1 + 1, by omega, .inl (by omega), by simp, fun q h1 h2 => ?_, B3, U3, S3⟩
          rcases Nat.lt_or_ge (q + 1) (j + 1) with hq | hq
          · exact ADJ.out q hq h2
          · obtain rfl : q = j := by omega
            exact HVV.out
        case measure => simp [intOf]; omega
    · have t1 : ¬ ((k : Int) < n) := by omega
      have hadj' : adjOK l := fun j hj => hadj j (by have := hnl.out; omega) (by rw [hnl.out]; exact hj)
      clear hadj
      have h4 : (n : Int) < 4096 := by omega
      go_upto_region 14 with (first
        | (refine list_loadApi (by rfl) (.tmp 5) rfl (w.heap.size + 1) 0 rfl zs nv c s hl.out HS.out.1.range ?_)
        | (go_at_call 13; refine (scheck_any key zs nv c s true _ hl hr (Lib.hid (hk.out.below HB.out)) hv).mono ?_; rintro e w4 ⟨rfl, hb⟩; have B4 := Lib.hid (bel_trans HB.out hb); have U4 := Lib.hid (HU.out.below hb HU.out.lt); have S4 := Lib.hid (HS.out.bel hb); have cu4 := U4.out.cell 0; clear hb)
        | (refine list_loadM (by rfl) (.tmp 29) rfl (w.heap.size + 1) 0 rfl zs S4.out.bytes hl.out ?_)
        | (go_at_call 40; refine (bs_any l zs i n cap p w4 hd (Lib.hid (hz.out.below B4.out)) (by omega) hl hr hs hp false hf).mono ?_; rintro e w5 ⟨rfl, hb⟩; have B5 := Lib.hid (bel_trans B4.out hb); have U5 := Lib.hid (U4.out.below hb U4.out.lt); have S5 := Lib.hid (S4.out.bel hb); have cu5 := U5.out.cell 0; clear hb))
      refine wp_region_any (by kernel_rfl) ?_
      change wpAny _ _ _ _ _ _ _ (World.drew _)
      generalize hWD : World.drew _ = W
      have B6 := Lib.hid (show Below w.heap.size w W by rw [← hWD]; exact B5.out.drew)
      have U6 := Lib.hid (show Blk W w.heap.size #[.slice p n cap] 36 by rw [← hWD]; exact U5.out)
      have S6 := Lib.hid (show SBlk W (w.heap.size + 1) 27 zs nv c s by rw [← hWD]; exact S5.out)
      clear hWD B5 U5 S5 cu5 B4 U4 S4 cu4
      have hCD : ∀ u, Ext W u → Ext W u := fun u hu => hu
      refine region_U (D := Ext W) (Ext W) [6, 7, 8] (Ext.refl W) ?_
      refine anyU_takeD (i := 0) (v := .slice p n cap) 40 rfl rfl (by kernel_rfl) (by kernel_rfl) (by kernel_rfl) (fun _ _ _ h => h) (by kernel_rfl) (Ext.stable _) hCD (yieldsU_val rfl (fun u hu => by have cc := (U6.out.below hu U6.out.lt).cell 0; go_simp)) ?_
      refine anyU_takeD (i := 1) (v := .slice p n n) 41 rfl rfl (by kernel_rfl) (by kernel_rfl) (by kernel_rfl) (fun _ _ _ h => h) (by kernel_rfl) (Ext.stable _) hCD (yieldsU_call rfl 43 _ _ rfl #[.slice p n cap] (by simp [Act.eval, Act.put]) (fun u => by go_simp) (fun u hu => (clipD_any p n cap u hz.out.2.1 hz.out.2.2.1 (fun e => by rcases hz.out.2.2.2 with ⟨h1, h2⟩ | ⟨b, off, h1, _⟩; exact ⟨h1, h2 e⟩; rw [e] at h1; cases h1)).mono fun q w' hq => by obtain ⟨h1, h2⟩ := hq; subst h2; exact ⟨h1, Below.refl _ _⟩)) ?_
      refine anyU_takeD (i := 2) (v := .int .i64 (i : Int)) 42 rfl rfl (by kernel_rfl) (by kernel_rfl) (by kernel_rfl) (fun _ _ _ h => h) (by kernel_rfl) (Ext.stable _) hCD (yieldsU_val rfl (fun u hu => by go_simp)) ?_
      refine anyU_takeD (i := 3) (v := .pointer (some ⟨w.heap.size + 1, 0, none⟩)) 43 rfl rfl (by kernel_rfl) (by kernel_rfl) (by kernel_rfl) (fun _ _ _ h => h) (by kernel_rfl) (Ext.stable _) hCD (yieldsU_val rfl (fun u hu => by go_simp)) ?_
      refine anyU_takeD (i := 4) (v := .agg (bv zs).toArray) 44 rfl rfl (by kernel_rfl) (by kernel_rfl) (by kernel_rfl) (fun _ _ _ h => h) (by kernel_rfl) (Ext.stable _) hCD (yieldsU_of_C (yields_loadM (by rfl) (.tmp 43) rfl (w.heap.size + 1) 0 rfl zs hl.out (fun u hu => (S6.out.bel hu).bytes))) ?_
      simp only [Act.put, List.setIfInBounds_toArray, List.set_cons_succ, List.set_cons_zero]
      refine anyU_one 5 3 _ rfl rfl (by kernel_rfl) ?_
      intro u1 hu
      refine list_build1 (by rfl) (.tmp 44) rfl (bv zs) rfl (by rw [bv_len]; exact hl.out) ?_
      change ∃ C' : World → Prop, _ ∧ _ ∧ _ ∧ anyU _ _ _ _ _ _ 3 _ _ _
      have X1 := Lib.hid (Dg.box u1 hl.out)
      have E1 := Lib.hid (Ext.trans hu (bel_alloc1 u1 (.cells (bv zs).toArray 23)))
      generalize World.alloc u1 _ = u2 at X1 E1 ⊢
      generalize u1.heap.size = xb at X1 ⊢
      clear hu
      refine anchorF (fun z => Ext W z ∧ Dg z xb zs) (fun z hz => hz.1) ((Ext.stable W).and (fun y z h k => h.bel k)) ⟨E1.out, X1.out⟩ ?_
      (try simp only [Act.put])
      refine anyU_tail 6 [7, 8] rfl rfl (by decide) (by kernel_rfl) ?_
      intro u3 hu3
      simp only [Act.put, List.filterMap_cons, List.filterMap_nil, List.getElem?_cons_succ, List.getElem?_cons_zero]
      have X3 := Lib.hid hu3.2
      have B7 := Lib.hid (bel_trans B6.out hu3.1)
      clear hu3
      go_wp2_with (go_at_call 42; refine (ins_any l zs i n p xb u3 hd (Lib.hid (srcL_clip (hz.out.below B7.out))) hn2 hl hp X3).mono ?_; rintro e u4 ⟨v4, rfl, o4, hb⟩; have O4 := Lib.hid (ownR_base o4 B7.out.size); have B8 := Lib.hid (bel_trans B7.out hb); clear o4 hb)
      go_ret2
      exact ⟨v4, rfl, O4.out, B8.out⟩
end Go.Proofs.YtjdkdhpippapmaaGreatDoor
