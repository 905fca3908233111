/- Are all tiers right? -/
import Derived.Test.YticaeecfhfjjeaaTarAll
namespace Go.Proofs.Yticaeecfhfjjeaa
open Go.RowKit
set_option linter.unusedVariables false

/-- only one block has turned, and there are new ones -/
def Keep (bl : Nat) (w w' : World) : Prop := w.grownBy w' (some bl)
theorem Keep.refl (bl : Nat) (w : World) : Keep bl w w := ⟨rfl, rfl, rfl, Nat.le_refl _, fun _ _ _ => rfl⟩
theorem Keep.trans {bl : Nat} {a b c : World} (h : Keep bl a b) (k : Keep bl b c) : Keep bl a c :=
  ⟨k.os.trans h.os, k.tape.trans h.tape, k.output.trans h.output, Nat.le_trans h.size k.size, fun i hi hn => (k.block i (Nat.lt_of_lt_of_le hi h.size) hn).trans (h.block i hi hn)⟩
theorem Keep.al {bl : Nat} {a b : World} (h : Keep bl a b) (o : Obj) : Keep bl a (b.alloc o) :=
  h.trans ⟨rfl, rfl, rfl, by simp, fun i hi _ => Below.heap_alloc b o i hi⟩
theorem Keep.set {bl : Nat} {a b : World} (h : Keep bl a b) (o : Nat) (v : Value) : Keep bl a (b.setCell ⟨bl, o, none⟩ v) :=
  h.trans ⟨rfl, rfl, rfl, by simp, fun i _ hn => Below.heap_setCell b ⟨bl, o, none⟩ v i (fun e => hn (by rw [e]))⟩
theorem Keep.of_below {bl : Nat} {a b : World} (h : Below a.heap.size a b) : Keep bl a b := ⟨h.os, h.tape, h.output, h.size, fun i hi _ => h.block i hi⟩
theorem Keep.below {bl N : Nat} {a b : World} (h : Keep bl a b) (h1 : N ≤ bl) (h2 : N ≤ a.heap.size) : Below N a b :=
  ⟨h.os, h.tape, h.output, h.size, fun i hi => h.block i (by omega) (fun e => by cases e; omega)⟩
theorem Keep.cell {bl b o : Nat} {w w' : World} (h : Keep bl w w') (hb : b < w.heap.size) (hn : b ≠ bl) : w'.cell? ⟨b, o, none⟩ = w.cell? ⟨b, o, none⟩ :=
  World.cell?_of_block (h.block b hb (fun e => hn (by cases e; rfl)))

set_option maxHeartbeats 1000000 in
theorem order_any (f x last : Int) (bl : Nat) (w : World) (hb : bl < w.heap.size) (hc : w.cell? ⟨bl, 0, none⟩ = some (.int .i64 last)) (hf : w.frozen? ⟨bl, 0, none⟩ = false) :
    Calls Try.prog 22 #[.agg #[.int .i64 f, .int .i64 x], .pointer (some ⟨bl, 0, none⟩)] w
      fun e w' => e = .returned (.bool (decide (last < f) && priceB x)) ∧ Keep bl w w' ∧ w'.cell? ⟨bl, 0, none⟩ = some (.int .i64 f) ∧ w'.frozen? ⟨bl, 0, none⟩ = false := by
  have HK : ∀ o, Hid (Keep bl w ((w.setCell ⟨bl, 0, none⟩ (.int .i64 f)).alloc o)) := fun o => Lib.hid (((Keep.refl bl w).set 0 _).al o)
  have HC : ∀ o, Hid (((w.setCell ⟨bl, 0, none⟩ (.int .i64 f)).alloc o).cell? ⟨bl, 0, none⟩ = some (.int .i64 f)) := fun o =>
    Lib.hid (by rw [(bel_alloc1 (w.setCell ⟨bl, 0, none⟩ (.int .i64 f)) o).cell (p := ⟨bl, 0, none⟩) (by simpa using hb)]; exact World.cell?_setCell_same' _ _ _ (by rw [hc]; rfl))
  have HF : ∀ o, Hid (((w.setCell ⟨bl, 0, none⟩ (.int .i64 f)).alloc o).frozen? ⟨bl, 0, none⟩ = false) := fun o =>
    Lib.hid (by rw [(bel_alloc1 (w.setCell ⟨bl, 0, none⟩ (.int .i64 f)) o).frozen (p := ⟨bl, 0, none⟩) (by simpa using hb), World.frozen?_setCell]; exact hf)
  by_cases h : last < f
  · have H := Lib.hid (show (decide (last < f) && priceB x) = priceB x by simp [h])
    go_enter Try.func22, Try.ntmps22
    go_wp2_with fail
    refine (isPrice_any _ _).mono ?_; rintro e w' ⟨rfl, rfl⟩
    go_wp2_with fail
    go_ret
    exact ⟨ret_bool H.out.symm, (HK _).out, (HC _).out, (HF _).out⟩
  · have H := Lib.hid (show (decide (last < f) && priceB x) = false by simp [h])
    go_enter Try.func22, Try.ntmps22
    go_wp2_with fail
    go_ret
    exact ⟨ret_bool H.out.symm, (HK _).out, (HC _).out, (HF _).out⟩

theorem all2_any (f x last : Int) (bl bc : Nat) (w : World) (hb : bl < w.heap.size) (hbc : bc < w.heap.size) (hc : w.cell? ⟨bl, 0, none⟩ = some (.int .i64 last)) (hf : w.frozen? ⟨bl, 0, none⟩ = false)
    (hk : w.cell? ⟨bc, 0, none⟩ = some (.func (.func 22) #[] #[.pointer (some ⟨bl, 0, none⟩)])) :
    Calls Try.prog 31 #[.agg #[.int .i64 f, .int .i64 x], .pointer (some ⟨bc, 0, none⟩)] w
      fun e w' => e = .returned (.bool (!(decide (last < f) && priceB x))) ∧ Keep bl w w' ∧ w'.cell? ⟨bl, 0, none⟩ = some (.int .i64 f) ∧ w'.frozen? ⟨bl, 0, none⟩ = false := by
  have HC := Lib.hid hc; have HF := Lib.hid hf; clear hc hf
  obtain ⟨v, HV⟩ : ∃ v, Hid ((decide (last < f) && priceB x) = v) := ⟨_, Lib.hid rfl⟩
  go_enter Try.func31, Try.ntmps31
  go_wp2_with fail
  refine (order_any f x last bl _ (by simp; omega) ((bel_alloc1 w _).cell (p := ⟨bl, 0, none⟩) hb |>.trans HC.out) ((bel_alloc1 w _).frozen (p := ⟨bl, 0, none⟩) hb |>.trans HF.out)).mono ?_; rintro e w1 ⟨rfl, hK, h2, h3⟩
  rw [HV.out]
  have HK := Lib.hid (((Keep.refl bl w).al _).trans hK)
  have H2 := Lib.hid h2; have H3 := Lib.hid h3; clear hK h2 h3
  go_wp2_with fail
  go_ret
  exact ⟨ret_bool (by rw [HV.out]), HK.out, H2.out, H3.out⟩

/-- the From before a tier -/
def prevF (ts : List Tr) : Nat → Int
  | 0 => 0
  | k + 1 => (ts.getD k (0, 0)).1
def okT (ts : List Tr) (k : Nat) : Bool := decide (prevF ts k < (ts.getD k (0, 0)).1) && priceB (ts.getD k (0, 0)).2
def tiersB (ts : List Tr) : Bool := (List.range ts.length).all (okT ts)
theorem range_getD {n k : Nat} (h : k < n) (d : Nat) : (List.range n).getD k d = k := by simp [h]

set_option maxHeartbeats 1000000 in
theorem index2_any (p : Option Addr) (n cap : Nat) (ts : List Tr) (bl bc : Nat) (w0 w : World) (hz : Hid (TiersV w0 p n ts)) (hB : Hid (Below w0.heap.size w0 w)) (hl : w0.heap.size ≤ bl) (hb : bl < w.heap.size) (hbc : bc < w.heap.size) (hne : bc ≠ bl)
    (hc : Hid (w.cell? ⟨bl, 0, none⟩ = some (.int .i64 0))) (hf : Hid (w.frozen? ⟨bl, 0, none⟩ = false)) (hk : Hid (w.cell? ⟨bc, 0, none⟩ = some (.func (.func 22) #[] #[.pointer (some ⟨bl, 0, none⟩)]))) :
    Calls Try.prog 35 #[.slice p n cap, .func (.func 31) #[] #[.pointer (some ⟨bc, 0, none⟩)]] w
      fun e w' => e = .returned (.int .i64 (idx (okT ts) (List.range ts.length))) ∧ Keep bl w w' := by
  have hn := Lib.hid hz.out.1
  have hmax := hz.out.2.1
  go_enter Try.func35, Try.ntmps35
  go_wp2_with fail
  go_loopw [8] (fun i wr => ∃ k : Nat, k ≤ n ∧ i = .int .i64 k ∧ Hid (∀ j, j < k → okT ts j = true) ∧ Hid (Keep bl w wr) ∧ Hid (wr.cell? ⟨bl, 0, none⟩ = some (.int .i64 (prevF ts k))) ∧ Hid (wr.frozen? ⟨bl, 0, none⟩ = false)) (fun i _ => n - (intOf i).toNat)
  case atStart => exact ⟨0, by omega, rfl, Lib.hid fun j hj => by omega, Lib.hid (Keep.refl _ _), hc, hf⟩
  case round =>
    obtain ⟨k, hk', rfl, hv, HK, HC, HF⟩ := hrel
    have hbr : bl < wr.heap.size := Nat.lt_of_lt_of_le hb HK.out.size
    have hbcr : bc < wr.heap.size := Nat.lt_of_lt_of_le hbc HK.out.size
    have HKC := Lib.hid ((HK.out.cell (o := 0) hbc hne).trans hk.out)
    have HZ := Lib.hid (hz.out.below (hB.out.trans (HK.out.below hl hB.out.size)))
    by_cases hlt : k < n
    · obtain ⟨b', off, hp, hb', hcell, hcell2⟩ := HZ.out.at hlt
      subst hp
      obtain ⟨⟨f, x⟩, hx⟩ : ∃ x, ts.getD k (0, 0) = x := ⟨_, rfl⟩
      rw [hx] at hcell hcell2
      dsimp only at hcell hcell2
      obtain ⟨q, HQ⟩ : ∃ q, Hid (okT ts k = q) := ⟨_, Lib.hid rfl⟩
      have HE : Hid ((decide (prevF ts k < f) && priceB x) = q) := Lib.hid (by have := HQ.out; unfold okT at this; rw [hx] at this; exact this)
      have HX := Lib.hid hx; clear hx
      cases q with
      | true =>
        have hv' := Lib.hid (show ∀ j, j < k + 1 → okT ts j = true from fun j hj => by
          rcases Nat.lt_or_ge j k with h | h
          · exact hv.out j h
          · obtain rfl : j = k := by omega
            exact HQ.out)
        go_wp2_with fail
        refine (all2_any f x (prevF ts k) bl bc _ hbr hbcr HC.out HF.out HKC.out).mono ?_; rintro e w1 ⟨rfl, hK, h2, h3⟩
        rw [HE.out]
        have HK1 := Lib.hid (HK.out.trans hK)
        have H2 : Hid (w1.cell? ⟨bl, 0, none⟩ = some (.int .i64 (prevF ts (k + 1)))) := Lib.hid (by rw [h2]; show _ = some (Value.int .i64 (ts.getD k (0, 0)).1); rw [HX.out])
        have H3 := Lib.hid h3; clear hK h2 h3
        go_wp2_with fail
        go_roundw
        case rel => exact ⟨k + 1, by omega, by go_num, hv', HK1, H2, H3⟩
        case measure => simp [intOf]; omega
      | false =>
        have hfi := Lib.hid (idx_some (q := okT ts) (zs := List.range ts.length) (k := k) (d := 0) (by rw [List.length_range, ← hn.out]; exact hlt) (fun j hj => by rw [range_getD (by have := hn.out; omega)]; exact hv.out j hj) (by rw [range_getD (by have := hn.out; omega)]; exact HQ.out))
        go_wp2_with fail
        refine (all2_any f x (prevF ts k) bl bc _ hbr hbcr HC.out HF.out HKC.out).mono ?_; rintro e w1 ⟨rfl, hK, h2, h3⟩
        rw [HE.out]
        have HK1 := Lib.hid (HK.out.trans hK)
        clear hK h2 h3
        go_wp2_with fail
        go_ret
        exact ⟨ret_int hfi.out.symm, HK1.out⟩
    · have hfi := Lib.hid (idx_none (q := okT ts) (zs := List.range ts.length) (fun j hj d => by
        rw [List.length_range] at hj
        rw [range_getD hj]; exact hv.out j (by have := hn.out; omega)))
      go_wp2_with fail
      go_ret
      exact ⟨ret_int hfi.out.symm, HK.out⟩

theorem contains2_any (p : Option Addr) (n cap : Nat) (ts : List Tr) (bl bc : Nat) (w0 w : World) (hz : Hid (TiersV w0 p n ts)) (hB : Hid (Below w0.heap.size w0 w)) (hl : w0.heap.size ≤ bl) (hb : bl < w.heap.size) (hbc : bc < w.heap.size) (hne : bc ≠ bl)
    (hc : Hid (w.cell? ⟨bl, 0, none⟩ = some (.int .i64 0))) (hf : Hid (w.frozen? ⟨bl, 0, none⟩ = false)) (hk : Hid (w.cell? ⟨bc, 0, none⟩ = some (.func (.func 22) #[] #[.pointer (some ⟨bl, 0, none⟩)]))) :
    Calls Try.prog 30 #[.slice p n cap, .func (.func 31) #[] #[.pointer (some ⟨bc, 0, none⟩)]] w
      fun e w' => e = .returned (.bool (!tiersB ts)) ∧ Keep bl w w' := by
  have H := Lib.hid (idx_all (okT ts) (List.range ts.length))
  go_enter Try.func30, Try.ntmps30
  go_wp2_with fail
  refine (index2_any p n cap ts bl bc w0 w hz hB hl hb hbc hne hc hf hk).mono ?_; rintro e w1 ⟨rfl, hK⟩
  have HK := Lib.hid hK; clear hK
  go_wp2_with fail
  go_ret
  exact ⟨ret_bool H.out, HK.out⟩

theorem allT_any (p : Option Addr) (n cap : Nat) (ts : List Tr) (bl : Nat) (w0 w : World) (hz : Hid (TiersV w0 p n ts)) (hB : Hid (Below w0.heap.size w0 w)) (hl : w0.heap.size ≤ bl) (hb : bl < w.heap.size)
    (hc : Hid (w.cell? ⟨bl, 0, none⟩ = some (.int .i64 0))) (hf : Hid (w.frozen? ⟨bl, 0, none⟩ = false)) :
    Calls Try.prog 23 #[.slice p n cap, .func (.func 22) #[] #[.pointer (some ⟨bl, 0, none⟩)]] w
      fun e w' => e = .returned (.bool (tiersB ts)) ∧ Keep bl w w' := by
  go_enter Try.func23, Try.ntmps23
  go_wp2_with fail
  refine (contains2_any p n cap ts bl w.heap.size w0 _ hz (Lib.hid (hB.out.alloc hB.out.size _)) hl (by simp; omega) (by simp) (by omega) (Lib.hid ((bel_alloc1 w _).cell (p := ⟨bl, 0, none⟩) hb |>.trans hc.out)) (Lib.hid ((bel_alloc1 w _).frozen (p := ⟨bl, 0, none⟩) hb |>.trans hf.out)) (Lib.hid ?_)).mono ?_
  · simp
  rintro e w1 ⟨rfl, hK⟩
  have HK := Lib.hid (((Keep.refl bl w).al _).trans hK); clear hK
  go_wp2_with fail
  go_ret
  exact ⟨ret_bool (by simp), HK.out⟩
end Go.Proofs.Yticaeecfhfjjeaa
