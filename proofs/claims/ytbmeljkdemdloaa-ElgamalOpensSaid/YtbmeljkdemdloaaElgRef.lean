/- The reference of layer 10: Secret, Public, Join; and Join for every slice that an argument can be. -/
import Derived.Test.YtbmeljkdemdloaaElgSane
import Derived.Test.YtbmeljkdemdloaaGroupRef
namespace Go.Proofs.Ytbmeljkdemdloaa
open Go.RowKit Go.Shelf
set_option linter.unusedVariables false

/-- a slice of ints: what it holds, wherever it lies -/
def IntsV (w : World) (p : Option Addr) (n cap : Nat) (zs : List Int) : Prop :=
  n = zs.length ∧ n ≤ 9223372036854775807 ∧ (n = 0 ∨ ∃ b off, p = some ⟨b, off, none⟩ ∧ b < w.heap.size ∧ IntsAt w b off zs)
theorem IntsV.below {w w' : World} {p : Option Addr} {n cap : Nat} {zs : List Int} (h : IntsV w p n cap zs) (k : Below w.heap.size w w') : IntsV w' p n cap zs := by
  obtain ⟨h1, h2, h3⟩ := h
  refine ⟨h1, h2, ?_⟩
  rcases h3 with h3 | ⟨b, off, rfl, hb, hc⟩
  · exact .inl h3
  · exact .inr ⟨b, off, rfl, Nat.lt_of_lt_of_le hb k.size, hc.below k hb⟩

set_option maxHeartbeats 400000 in
theorem foldB_none (p : Option Addr) (cap : Nat) (w : World) :
    Calls Try.prog 36 #[.slice p 0 cap, .bool true, .func (.func 37) #[] #[]] w fun e w' => e = .returned (.bool true) ∧ w = w' := by
  go_enter Try.func36, Try.ntmps36
  go_wp2
  go_loop [1, 11] (fun s i => s = .bool true ∧ i = .int .i64 0) (fun _ _ => 0)
  case atStart => exact ⟨rfl, rfl⟩
  case round =>
    obtain ⟨rfl, rfl⟩ := hrel
    go_wp2
    go_ret
    exact ⟨rfl, rfl⟩
set_option maxHeartbeats 400000 in
theorem foldI_none (p : Option Addr) (cap : Nat) (w : World) :
    Calls Try.prog 38 #[.slice p 0 cap, .int .i64 1, .func (.func 39) #[] #[]] w fun e w' => e = .returned (.int .i64 1) ∧ w = w' := by
  go_enter Try.func38, Try.ntmps38
  go_wp2
  go_loop [1, 11] (fun s i => s = .int .i64 1 ∧ i = .int .i64 0) (fun _ _ => 0)
  case atStart => exact ⟨rfl, rfl⟩
  case round =>
    obtain ⟨rfl, rfl⟩ := hrel
    go_wp2
    go_ret
    exact ⟨rfl, rfl⟩
set_option maxHeartbeats 400000 in
theorem join_none (p : Option Addr) (cap : Nat) (w : World) :
    Calls Try.prog 13 #[.slice p 0 cap] w fun e w' => e = .returned (.tuple #[.int .i64 1, .int .i64 0]) ∧ w = w' := by
  go_enter Try.func13, Try.ntmps13
  go_wp2_with fail
  refine (foldB_none _ _ _).mono ?_; rintro e w' ⟨rfl, rfl⟩
  go_wp2_with fail
  refine (foldI_none _ _ _).mono ?_; rintro e w' ⟨rfl, rfl⟩
  go_wp2_with fail
  go_ret2
  exact ⟨rfl, rfl⟩

theorem nil_of_len {zs : List Int} {n : Nat} (h : n = zs.length) (h0 : n = 0) : zs = [] := List.length_eq_zero_iff.1 (by omega)
theorem joinV_any (p : Option Addr) (n cap : Nat) (zs : List Int) (w : World) (h : IntsV w p n cap zs) :
    Calls Try.prog 13 #[.slice p n cap] w fun e w' => e = .returned (.tuple #[.int .i64 (joinZ zs), .int .i64 (joinE zs)]) ∧ Below w.heap.size w w' := by
  obtain ⟨h1, h2, h3⟩ := h
  by_cases h0 : n = 0
  · obtain rfl := nil_of_len h1 h0
    subst h0
    exact (join_none p cap w).mono fun e w' h => ⟨h.1, h.2 ▸ Below.refl _ _⟩
  · rcases h3 with h3 | ⟨b, off, rfl, hb, hc⟩
    · exact absurd h3 h0
    · exact join_any b off n cap zs w h1 h2 hc hb

set_option maxHeartbeats 400000 in
theorem rsec_any (s : Int) (w : World) :
    Calls Try.prog 34 #[.int .i64 s] w fun e w' => e = .returned (.bool (secB s)) ∧ w = w' := by
  by_cases h1 : 1 ≤ s
  · by_cases h2 : s < 1073741789
    · have H := Lib.hid (show secB s = true by unfold secB; simp [h1, h2])
      go_enter Try.func34, Try.ntmps34
      go_wp2
      go_ret
      exact ⟨ret_bool H.out.symm, rfl⟩
    · have H := Lib.hid (show secB s = false by unfold secB; simp; omega)
      go_enter Try.func34, Try.ntmps34
      go_wp2
      go_ret
      exact ⟨ret_bool H.out.symm, rfl⟩
  · have H := Lib.hid (show secB s = false by unfold secB; simp; omega)
    go_enter Try.func34, Try.ntmps34
    go_wp2
    go_ret
    exact ⟨ret_bool H.out.symm, rfl⟩

set_option maxHeartbeats 400000 in
theorem rpublic_any (s : Int) (w : World) :
    Calls Try.prog 12 #[.int .i64 s] w fun e w' => e = .returned (.tuple #[.int .i64 (pubZ s), .int .i64 (pubE s)]) ∧ w = w' := by
  cases hv : secB s with
  | true =>
    have HV := Lib.hid hv
    have e1 := Lib.hid (show powZ 4 s = pubZ s by unfold pubZ; rw [hv, if_pos rfl])
    have e2 := Lib.hid (show powE 4 = pubE s by unfold pubE; rw [hv]; first | exact c_powE | simp [c_powE])
    clear hv
    go_enter Try.func12, Try.ntmps12
    go_wp2_with fail
    refine (rsec_any _ _).mono ?_; rintro e w' ⟨rfl, rfl⟩; rw [HV.out]
    go_wp2_with fail
    refine (rPow_any _ _ _).mono ?_; rintro e w' ⟨rfl, rfl⟩
    go_wp2_with fail
    go_ret2
    exact ⟨ret_two e1.out e2.out, rfl⟩
  | false =>
    have HV := Lib.hid hv
    have e1 := Lib.hid (show pubZ s = 0 by unfold pubZ; rw [hv]; rfl)
    have e2 := Lib.hid (show pubE s = 110 by unfold pubE; rw [hv]; rfl)
    clear hv
    go_enter Try.func12, Try.ntmps12
    go_wp2_with fail
    refine (rsec_any _ _).mono ?_; rintro e w' ⟨rfl, rfl⟩; rw [HV.out]
    go_wp2_with fail
    go_ret2
    exact ⟨ret_two e1.out.symm e2.out.symm, rfl⟩

theorem foldl_el : ∀ (zs : List Int) (a : Int), elB a = true → zs.all elB = true → elB (zs.foldl mulZ a) = true
  | [], a, h, _ => h
  | z :: zs, a, h, hz => by
    simp only [List.all_cons, Bool.and_eq_true] at hz
    exact foldl_el zs _ (mulZ_el h hz.1) hz.2
theorem all_take_le {p : Int → Bool} {zs : List Int} (h : zs.all p = true) (k : Nat) : (zs.take k).all p = true := by
  rw [List.all_eq_true] at *; intro x hx; exact h x (List.mem_of_mem_take hx)

set_option maxHeartbeats 1000000 in
theorem rjoin_any (p : Option Addr) (n cap : Nat) (zs : List Int) (w : World) (h : IntsV w p n cap zs) :
    Calls Try.prog 14 #[.slice p n cap] w fun e w' => e = .returned (.tuple #[.int .i64 (joinZ zs), .int .i64 (joinE zs)]) ∧ w = w' := by
  have HI := Lib.hid h
  have hbig := h.2.1
  clear h
  go_enter Try.func14, Try.ntmps14
  go_wp2_with fail
  go_loop [4, 5] (fun c i => ∃ k : Nat, k ≤ n ∧ i = .int .i64 k ∧ ∃ v : Int, c = .int .i64 v ∧ Hid (v = (zs.take k).foldl mulZ 1) ∧ Hid ((zs.take k).all elB = true)) (fun _ i => n - (intOf i).toNat)
  case atStart => exact ⟨0, Nat.zero_le _, rfl, 1, rfl, rfl, rfl⟩
  case round =>
    obtain ⟨k, hk, rfl, v, rfl, hv, hT⟩ := hrel
    by_cases hlt : k < n
    · have hz := HI.out.1
      obtain ⟨b, off, rfl, hb, hc⟩ : ∃ b off, p = some ⟨b, off, none⟩ ∧ b < w.heap.size ∧ IntsAt w b off zs := by
        rcases HI.out.2.2 with h | h
        · omega
        · exact h
      have hcell := hc k (by omega)
      have HT := Lib.hid (all_take elB zs k (by omega))
      have HF := Lib.hid (foldl_take zs mulZ 1 k (by omega))
      have hve : elB v = true := by rw [hv.out]; exact foldl_el _ _ elB_one hT.out
      have hbad : elB (zs.getD k 0) = false → zs.all elB = false := fun h => all_false elB zs k (by omega) h
      have HZ := Lib.hid hz; clear hz hc
      generalize hx : zs.getD k 0 = x at hcell HT HF hbad
      clear hx
      have HV := Lib.hid hve; clear hve
      cases hxe : elB x with
      | true =>
        have HX := Lib.hid hxe
        have q := mulE_el HV.out hxe
        clear hxe hbad
        go_wp2_with fail
        refine (rMul_any _ _ _).mono ?_; rintro e w' ⟨rfl, rfl⟩; rw [q]
        go_wp2_with fail
        go_round
        case rel => exact ⟨k + 1, by omega, by go_num, _, rfl, by rw [HF.out, ← hv.out]; rfl, by rw [HT.out, hT.out, HX.out]; rfl⟩
        case measure => simp [intOf]; omega
      | false =>
        have hno := Lib.hid (hbad hxe)
        have q : mulE v x = 90 := by unfold mulE; rw [HV.out, hxe]; rfl
        have e1 := Lib.hid (show joinZ zs = 0 by unfold joinZ; rw [hno.out]; rfl)
        have e2 := Lib.hid (show joinE zs = 90 by unfold joinE; rw [hno.out]; rfl)
        clear hxe hbad
        go_wp2_with fail
        refine (rMul_any _ _ _).mono ?_; rintro e w' ⟨rfl, rfl⟩; rw [q]
        go_wp2_with fail
        go_ret2
        exact ⟨ret_two e1.out.symm e2.out.symm, rfl⟩
    · have hall : zs.take k = zs := List.take_of_length_le (by have := HI.out.1; omega)
      have e0 : zs.all elB = true := by rw [← hT.out, hall]
      have e1 := Lib.hid (show v = joinZ zs by unfold joinZ; rw [hv.out, hall, e0, if_pos rfl])
      have e2 := Lib.hid (show joinE zs = 0 by unfold joinE; rw [e0]; rfl)
      clear e0 hall
      go_wp2
      go_ret2
      exact ⟨ret_two e1.out e2.out.symm, rfl⟩
end Go.Proofs.Ytbmeljkdemdloaa
