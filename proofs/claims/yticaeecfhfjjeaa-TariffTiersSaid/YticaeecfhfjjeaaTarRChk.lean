/- The reference's Check. -/
import Derived.Test.YticaeecfhfjjeaaTarCheck
namespace Go.Proofs.Yticaeecfhfjjeaa
open Go.RowKit
set_option linter.unusedVariables false

theorem bel_dn {B : Nat} {a w : World} (h : Below B a w) (n : Nat) : Below B a (w.drewN n) := ⟨h.os, h.tape, h.output, h.size, h.block⟩
theorem Blks.dn {w : World} : ∀ {l : List (Nat × Array Value × TypeId)}, Blks w l → (n : Nat) → Blks (w.drewN n) l
  | [], _, _ => trivial
  | _ :: _, h, n => ⟨h.1, Blks.dn h.2 n⟩
theorem all_t {α : Type} {q : α → Bool} {zs : List α} {d : α} (h : ∀ k, k < zs.length → q (zs.getD k d) = true) : zs.all q = true := by
  rw [List.all_eq_true]; intro x hx
  obtain ⟨k, hk, rfl⟩ := List.mem_iff_getElem.1 hx
  have := h k hk
  rwa [List.getD_eq_getElem?_getD, List.getElem?_eq_getElem hk] at this
theorem all_f {α : Type} {q : α → Bool} {zs : List α} {d : α} {k : Nat} (hk : k < zs.length) (h : q (zs.getD k d) = false) : zs.all q = false := by
  rw [List.all_eq_false]; exact ⟨_, getD_mem hk, by rw [h]; simp⟩
theorem tiers_t {ts : List Tr} (h : ∀ k, k < ts.length → okT ts k = true) : tiersB ts = true :=
  all_t (d := 0) (fun k hk => by rw [List.length_range] at hk; rw [range_getD hk]; exact h k hk)
theorem tiers_f {ts : List Tr} {k : Nat} (hk : k < ts.length) (h : okT ts k = false) : tiersB ts = false :=
  all_f (d := 0) (k := k) (by rw [List.length_range]; exact hk) (by rw [range_getD hk]; exact h)
theorem prevF_pos {ts : List Tr} : ∀ {k : Nat}, (∀ j, j < k → okT ts j = true) → 0 ≤ prevF ts k
  | 0, _ => Int.le_refl _
  | k + 1, h => by
    have h1 := prevF_pos (k := k) (fun j hj => h j (by omega))
    have h2 := h k (by omega)
    unfold okT at h2
    simp only [Bool.and_eq_true, decide_eq_true_eq] at h2
    show 0 ≤ (ts.getD k (0, 0)).1
    omega

theorem rprice_q (n : Int) (q : Bool) (w : World) (h : priceB n = q) :
    Calls Try.prog 24 #[.int .i64 n] w fun e w' => e = .returned (.bool q) ∧ w' = w :=
  (rprice_any n w).mono fun _ _ ⟨h1, h2⟩ => ⟨h1.trans (ret_bool h), h2.symm⟩

set_option maxRecDepth 100000 in
set_option maxHeartbeats 2000000 in
theorem rcheck_any (pb : Option Addr) (nb cb : Nat) (pl : Option Addr) (nl cl : Nat) (pt : Option Addr) (nt ct : Nat) (base leg : List Int) (ts : List Tr) (w : World) (hz : Hid (TarV w pb nb pl nl pt nt base leg ts)) :
    Calls Try.prog 13 #[tarV pb nb cb pl nl cl pt nt ct] w fun e w' => e = .returned (.int .i64 (chkE base leg ts)) ∧ Below w.heap.size w w' := by
  have H1 := Lib.hid hz.out.1.1; have H2 := Lib.hid hz.out.2.1.1; have H3 := Lib.hid hz.out.2.2.1
  have m1 := hz.out.1.2.1; have m2 := hz.out.2.1.2.1; have m3 := hz.out.2.2.2.1
  have v : Blks (w.alloc (.cells #[.slice pb nb cb, .slice pl nl cl, .slice pt nt ct] 25)) [(w.heap.size, #[.slice pb nb cb, .slice pl nl cl, .slice pt nt ct], 25)] := (Blks.nil w).box _ _
  have V := Lib.hid v; clear v
  have h1 := Lib.hid (bel_alloc1 w (.cells #[.slice pb nb cb, .slice pl nl cl, .slice pt nt ct] 25))
  cases hl : lensB nb nl nt with
  | false =>
    have HE : Hid (chkE base leg ts = 210) := Lib.hid (by unfold chkE chkB; rw [← H1.out, ← H2.out, ← H3.out, hl]; rfl)
    by_cases a3 : nl = nb
    · subst a3
      by_cases a1 : 1 ≤ nl
      · by_cases a2 : nl ≤ 8
        · have a4 : 16 < nt := by
            apply Classical.byContradiction; intro hh
            have : lensB nl nl nt = true := by unfold lensB; simp; omega
            rw [this] at hl; cases hl
          clear hl
          go_enter Try.func13, Try.ntmps13
          go_wp2_with fail
          go_ret
          exact ⟨ret_int HE.out.symm, h1.out⟩
        · clear hl
          go_enter Try.func13, Try.ntmps13
          go_wp2_with fail
          go_ret
          exact ⟨ret_int HE.out.symm, h1.out⟩
      · clear hl
        go_enter Try.func13, Try.ntmps13
        go_wp2_with fail
        go_ret
        exact ⟨ret_int HE.out.symm, h1.out⟩
    · have a4 : ((nb : Int) != (nl : Int)) = true := by simp; omega
      clear hl
      go_enter Try.func13, Try.ntmps13
      go_wp2_with fail
      go_ret
      exact ⟨ret_int HE.out.symm, h1.out⟩
  | true =>
  obtain ⟨a1, a2, rfl, a4⟩ := lens_t hl
  have HL := Lib.hid hl; clear hl
  go_enter Try.func13, Try.ntmps13
  go_wp2_with fail
  go_loop [3] (fun i => ∃ k : Nat, k ≤ nl ∧ i = .int .i64 k ∧ Hid (∀ j, j < k → priceB (base.getD j 0) = true ∧ priceB (leg.getD j 0) = true)) (fun i => nl - (intOf i).toNat)
  case atStart => exact ⟨0, by omega, rfl, Lib.hid fun j hj => by omega⟩
  case round =>
    obtain ⟨k, hk, rfl, hv⟩ := hrel
    by_cases hlt : k < nl
    · obtain ⟨b', off, hp, hb', hcell⟩ := (hz.out.1.below h1.out).at hlt
      subst hp
      obtain ⟨b2, off2, hp, hb2, hcell2⟩ := (hz.out.2.1.below h1.out).at hlt
      subst hp
      obtain ⟨x, hx⟩ : ∃ x, base.getD k 0 = x := ⟨_, rfl⟩
      obtain ⟨y, hy⟩ : ∃ x, leg.getD k 0 = x := ⟨_, rfl⟩
      rw [hx] at hcell; rw [hy] at hcell2
      have HX := Lib.hid hx; have HY := Lib.hid hy; clear hx hy
      cases hq : priceB x with
      | false =>
        have HE : Hid (chkE base leg ts = 210) := Lib.hid (by unfold chkE chkB; rw [all_f (d := 0) (k := k) (by rw [← H1.out]; exact hlt) (by rw [HX.out]; exact hq)]; simp)
        have HQ := Lib.hid hq; clear hq
        go_wp2_with fail
        refine (rprice_any _ _).mono ?_; rintro e w' ⟨rfl, rfl⟩
        rw [HQ.out]
        go_wp2_with fail
        go_ret
        exact ⟨ret_int HE.out.symm, h1.out⟩
      | true =>
      have HQ := Lib.hid hq; clear hq
      cases hr : priceB y with
      | false =>
        have HE : Hid (chkE base leg ts = 210) := Lib.hid (by unfold chkE chkB; rw [all_f (zs := leg) (d := 0) (k := k) (by rw [← H2.out]; exact hlt) (by rw [HY.out]; exact hr)]; simp)
        have HR := Lib.hid hr; clear hr
        go_wp2_with fail
        refine (rprice_any _ _).mono ?_; rintro e w' ⟨rfl, rfl⟩
        rw [HQ.out]
        go_wp2_with fail
        refine (rprice_any _ _).mono ?_; rintro e w' ⟨rfl, rfl⟩
        rw [HR.out]
        go_wp2_with fail
        go_ret
        exact ⟨ret_int HE.out.symm, h1.out⟩
      | true =>
        have HR := Lib.hid hr; clear hr
        have hv' := Lib.hid (show ∀ j, j < k + 1 → priceB (base.getD j 0) = true ∧ priceB (leg.getD j 0) = true from fun j hj => by
          rcases Nat.lt_or_ge j k with h | h
          · exact hv.out j h
          · obtain rfl : j = k := by omega
            rw [HX.out, HY.out]; exact ⟨HQ.out, HR.out⟩)
        go_wp2_with fail
        refine (rprice_any _ _).mono ?_; rintro e w' ⟨rfl, rfl⟩
        rw [HQ.out]
        go_wp2_with fail
        refine (rprice_any _ _).mono ?_; rintro e w' ⟨rfl, rfl⟩
        rw [HR.out]
        go_wp2_with fail
        go_round
        case rel => exact ⟨k + 1, by omega, by go_num, hv'⟩
        case measure => simp [intOf]; omega
    · have HA : Hid (chkE base leg ts = if tiersB ts then 0 else 210) := Lib.hid (by
        unfold chkE chkB
        rw [← H1.out, ← H2.out, ← H3.out, HL.out, all_t (zs := base) (d := 0) (fun j hj => (hv.out j (by have := H1.out; omega)).1), all_t (zs := leg) (d := 0) (fun j hj => (hv.out j (by have := H2.out; omega)).2)]; rfl)
      go_wp2_with fail
      obtain ⟨W, hW⟩ : ∃ W, w.alloc (.cells #[.slice pb nl cb, .slice pl nl cl, .slice pt nt ct] 25) = W := ⟨_, rfl⟩
      rw [hW]
      rw [hW] at V h1
      clear hW hv
      go_loopw [4] (fun i wr => ∃ k : Nat, k ≤ nt ∧ i = .int .i64 k ∧ Hid (∀ j, j < k → okT ts j = true) ∧ Hid (Below w.heap.size w wr) ∧ Hid (Blks wr [(w.heap.size, #[.slice pb nl cb, .slice pl nl cl, .slice pt nt ct], 25)])) (fun i _ => nt - (intOf i).toNat)
      case atStart => exact ⟨0, by omega, rfl, Lib.hid fun j hj => by omega, h1, V⟩
      case round =>
        obtain ⟨k, hk, rfl, hv, HB, VR⟩ := hrel
        obtain ⟨c0, c1, c2⟩ := blk3_facts VR.out.1
        by_cases hlt : k < nt
        · obtain ⟨b', off, hp, hb', hcell, hcell2⟩ := (hz.out.2.2.below HB.out).at hlt
          have hbd := (hz.out.2.2.below HB.out).bd hlt
          have HPt := Lib.hid hp
          subst hp
          obtain ⟨⟨f, x⟩, hx⟩ : ∃ x, ts.getD k (0, 0) = x := ⟨_, rfl⟩
          rw [hx] at hcell hcell2 hbd
          dsimp only at hcell hcell2 hbd
          obtain ⟨⟨f0, f1⟩, x0, x1⟩ := hbd
          have HX := Lib.hid hx; clear hx
          have hpos := prevF_pos hv.out
          by_cases hf : 1 ≤ f
          case neg =>
            have HT := Lib.hid (tiers_f (ts := ts) (k := k) (by rw [← H3.out]; exact hlt) (by unfold okT; rw [HX.out]; simp; omega))
            clear hpos
            have hf' : decide (f < 1) = true := by simp; omega
            go_wp2_with fail
            go_quiet (fail)
            go_wp2_with fail
            go_ret
            exact ⟨ret_int (by rw [HA.out, HT.out]; rfl), bel_dn HB.out _⟩
          case pos =>
          have hf' : decide (f < 1) = false := by simp; omega
          rcases Nat.eq_zero_or_pos k with h0 | h0
          · subst h0
            simp only [Nat.zero_mul, Nat.add_zero] at hcell hcell2
            have HP : Hid (decide (prevF ts 0 < f) = true) := Lib.hid (by show decide ((0 : Int) < f) = true; simp; omega)
            clear hpos
            cases hq : priceB x with
            | false =>
              have HT := Lib.hid (tiers_f (ts := ts) (k := 0) (by rw [← H3.out]; exact hlt) (by unfold okT; rw [HX.out, hq]; simp))
              have HQ := Lib.hid hq; clear hq
              go_wp2_with fail
              go_quiet ((go_at_call 24; exact Calls.quiet_of_same (rprice_q _ _ _ HQ.out)))
              go_wp2_with fail
              go_ret
              exact ⟨ret_int (by rw [HA.out, HT.out]; rfl), bel_dn HB.out _⟩
            | true =>
              have hv' := Lib.hid (show ∀ j, j < 0 + 1 → okT ts j = true from fun j hj => by
                rcases Nat.lt_or_ge j (0) with h | h
                · exact hv.out j h
                · obtain rfl : j = 0 := by omega
                  unfold okT; rw [HX.out, hq, HP.out]; rfl)
              have HQ := Lib.hid hq; clear hq
              go_wp2_with fail
              go_quiet ((go_at_call 24; exact Calls.quiet_of_same (rprice_q _ _ _ HQ.out)))
              go_wp2_with fail
              go_roundw
              case rel => exact ⟨0 + 1, by omega, by go_num, hv', Lib.hid (bel_dn HB.out _), Lib.hid (VR.out.dn _)⟩
              case measure => simp [intOf]; omega
          · obtain ⟨m, rfl⟩ : ∃ m, k = m + 1 := ⟨k - 1, by omega⟩
            obtain ⟨b3, off3, hp3, _, hcell3, _⟩ := (hz.out.2.2.below HB.out).at (k := m) (by omega)
            have hbd := ((hz.out.2.2.below HB.out).bd (k := m) (by omega)).1
            cases hp3
            obtain ⟨g, HG⟩ : ∃ g, Hid (prevF ts (m + 1) = g) := ⟨_, Lib.hid rfl⟩
            have hg : (ts.getD m (0, 0)).1 = g := HG.out
            rw [hg] at hcell3 hbd
            obtain ⟨g0, g1⟩ := hbd
            rw [HG.out] at hpos
            clear hg
            have e1 : IntKind.i64.wrap (((m + 1 : Nat) : Int) - 1) = ((m : Nat) : Int) := (IntWalk.i64_in (((m + 1 : Nat) : Int) - 1) (by omega)).trans (by omega)
            have e3 : decide ((0 : Int) < ((m + 1 : Nat) : Int)) = true := by simp
            by_cases hfg : g < f
            case neg =>
              have HT := Lib.hid (tiers_f (ts := ts) (k := m + 1) (by rw [← H3.out]; exact hlt) (by unfold okT; rw [HX.out, HG.out]; simp; omega))
              have hfg' : decide (f ≤ g) = true := by simp; omega
              go_wp2_with fail
              go_quiet (fail)
              go_wp2_with fail
              go_ret
              exact ⟨ret_int (by rw [HA.out, HT.out]; rfl), bel_dn HB.out _⟩
            case pos =>
            have hfg' : decide (f ≤ g) = false := by simp; omega
            have HP : Hid (decide (prevF ts (m + 1) < f) = true) := Lib.hid (by rw [HG.out]; simp; omega)
            cases hq : priceB x with
            | false =>
              have HT := Lib.hid (tiers_f (ts := ts) (k := m + 1) (by rw [← H3.out]; exact hlt) (by unfold okT; rw [HX.out, hq]; simp))
              have HQ := Lib.hid hq; clear hq
              go_wp2_with fail
              go_quiet ((go_at_call 24; exact Calls.quiet_of_same (rprice_q _ _ _ HQ.out)))
              go_wp2_with fail
              go_ret
              exact ⟨ret_int (by rw [HA.out, HT.out]; rfl), bel_dn HB.out _⟩
            | true =>
              have hv' := Lib.hid (show ∀ j, j < m + 1 + 1 → okT ts j = true from fun j hj => by
                rcases Nat.lt_or_ge j (m + 1) with h | h
                · exact hv.out j h
                · obtain rfl : j = m + 1 := by omega
                  unfold okT; rw [HX.out, hq, HP.out]; rfl)
              have HQ := Lib.hid hq; clear hq
              go_wp2_with fail
              go_quiet ((go_at_call 24; exact Calls.quiet_of_same (rprice_q _ _ _ HQ.out)))
              go_wp2_with fail
              go_roundw
              case rel => exact ⟨m + 1 + 1, by omega, by go_num, hv', Lib.hid (bel_dn HB.out _), Lib.hid (VR.out.dn _)⟩
              case measure => simp [intOf]; omega
        · have HT := Lib.hid (tiers_t (ts := ts) (fun j hj => hv.out j (by have := H3.out; omega)))
          go_wp2_with fail
          go_ret
          exact ⟨ret_int (by rw [HA.out, HT.out]; rfl), HB.out⟩
end Go.Proofs.Yticaeecfhfjjeaa
