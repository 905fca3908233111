/- The reference: Moments, Next. -/
import Derived.Test.YtilokkkodocoiaaCalRef
import Derived.Test.YtilokkkodocoiaaCalRChk
namespace Go.Proofs.Ytilokkkodocoiaa
open Go.RowKit
set_option linter.unusedVariables false
set_option linter.unusedSimpArgs false

theorem nx_cons {rs : List Rl} {gs : List Gp} {t u : Int} (h : nx rs gs t = u) (hu : u < 2097152) : depL rs gs t = u :: depL rs gs (u + 1) ∧ t ≤ u := by
  unfold nx at h
  cases hl : depL rs gs t with
  | nil => rw [hl] at h; have h : (2097152 : Int) = u := h; omega
  | cons x l =>
    rw [hl] at h
    have h : x = u := h
    subst h
    have hm := mem_depL.1 (show x ∈ depL rs gs t by rw [hl]; exact List.mem_cons_self)
    have hs := depL_inc (rs := rs) (gs := gs) (a := t)
    rw [hl] at hs
    have hsk : depL rs gs t = depL rs gs x := depL_skip hm.1 fun s h1 h2 => by
      cases hd : depB rs gs s with
      | false => rfl
      | true =>
        have hms : s ∈ depL rs gs t := mem_depL.2 ⟨h1, by omega, hd⟩
        rw [hl] at hms
        rcases List.mem_cons.1 hms with rfl | h3
        · omega
        · have := (List.pairwise_cons.1 hs).1 s h3; omega
    rw [← hl, hsk, depL_hit hu hm.2.2]
    exact ⟨rfl, hm.1⟩
theorem nx_rng {rs : List Rl} {gs : List Gp} {t : Int} (h : t ≤ 2097152) : t ≤ nx rs gs t ∧ nx rs gs t ≤ 2097152 := by
  by_cases hu : nx rs gs t < 2097152
  · exact ⟨(nx_cons rfl hu).2, by omega⟩
  · unfold nx at hu ⊢
    cases hl : depL rs gs t with
    | nil => exact ⟨h, Int.le_refl _⟩
    | cons x l =>
      have hm := mem_depL.1 (show x ∈ depL rs gs t by rw [hl]; exact List.mem_cons_self)
      exact ⟨hm.1, by show x ≤ _; omega⟩
theorem nx_none {rs : List Rl} {gs : List Gp} {t : Int} (h : ¬ nx rs gs t < 2097152) : depL rs gs t = [] := by
  unfold nx at h
  cases hl : depL rs gs t with
  | nil => rfl
  | cons x l =>
    have hm := mem_depL.1 (show x ∈ depL rs gs t by rw [hl]; exact List.mem_cons_self)
    rw [hl] at h
    have h : ¬ x < 2097152 := h
    omega
theorem mom_cut {rs : List Rl} {gs : List Gp} {a b t : Int} {pre : List Int} (h : depL rs gs a = pre ++ depL rs gs t) (hp : ∀ s ∈ pre, s < b) (hu : b ≤ nx rs gs t) : momL rs gs a b = pre := by
  unfold momL
  rw [h]
  by_cases hE : nx rs gs t < 2097152
  · rw [(nx_cons rfl hE).1]
    exact takeWhile_cut (fun s hs => decide_eq_true (hp s hs)) (decide_eq_false (by omega))
  · rw [nx_none hE, List.append_nil]
    exact takeWhile_all (fun s hs => decide_eq_true (hp s hs))
theorem mom_big {rs : List Rl} {gs : List Gp} {a b t : Int} {pre : List Int} (h : depL rs gs a = pre ++ depL rs gs t) (hp : ∀ s ∈ pre, s < b) (hE : nx rs gs t < 2097152) (hu : nx rs gs t < b) : pre.length + 1 ≤ (momL rs gs a b).length := by
  unfold momL
  rw [h, (nx_cons rfl hE).1]
  have := takeWhile_more (p := fun s => decide (s < b)) (pre := pre ++ [nx rs gs t]) (rest := depL rs gs (nx rs gs t + 1)) (fun s hs => (List.mem_append.1 hs).elim (fun h => decide_eq_true (hp s h)) (fun h => by rw [List.mem_singleton.1 h]; exact decide_eq_true hu))
  rw [List.length_append, List.length_singleton, List.append_assoc] at this
  exact this
set_option maxRecDepth 100000 in
set_option maxHeartbeats 8000000 in
theorem rmom_chk (p : Option Addr) (n c : Nat) (rs : List Rl) (q : Option Addr) (m d : Nat) (gs : List Gp) (a b : Int) (w : World) (hr : Hid (RulesV w p n c rs)) (hg : Hid (GapsV w q m d gs)) (E : Int) (hE : Hid (chkE rs gs = E)) (hne : ¬ E = 0) :
    Calls Try.prog 11 #[.slice p n c, .slice q m d, .int .i64 a, .int .i64 b] w fun e w' => e = .returned (.tuple #[.slice none 0 0, .int .i64 E]) ∧ Below w.heap.size w w' := by
  have hd1 : decide (E = 0) = false := decide_eq_false hne
  have hd2 : (E == 0) = false := by simpa using hne
  go_enter Try.func11, Try.ntmps11
  go_wp2_with (go_at_call 13; (with_reducible refine (rcheck_is p n c rs q m d gs E _ hr hg hE).mono ?_); rintro e w1 ⟨rfl, hb⟩; have B1 := Lib.hid hb; clear hb)
  go_ret2
  exact ⟨rfl, B1.out⟩
set_option maxRecDepth 100000 in
set_option maxHeartbeats 8000000 in
theorem rmom_neg (p : Option Addr) (n c : Nat) (rs : List Rl) (q : Option Addr) (m d : Nat) (gs : List Gp) (a b : Int) (w : World) (hr : Hid (RulesV w p n c rs)) (hg : Hid (GapsV w q m d gs)) (hE : Hid (chkE rs gs = 0)) (h0 : a < 0) :
    Calls Try.prog 11 #[.slice p n c, .slice q m d, .int .i64 a, .int .i64 b] w fun e w' => e = .returned (.tuple #[.slice none 0 0, .int .i64 1]) ∧ Below w.heap.size w w' := by
  have d1 : decide (a < 0) = true := decide_eq_true h0
  go_enter Try.func11, Try.ntmps11
  go_wp2_with (go_at_call 13; (with_reducible refine (rcheck_is p n c rs q m d gs 0 _ hr hg hE).mono ?_); rintro e w1 ⟨rfl, hb⟩; have B1 := Lib.hid hb; clear hb)
  go_ret2
  exact ⟨rfl, B1.out⟩
set_option maxRecDepth 100000 in
set_option maxHeartbeats 8000000 in
theorem rmom_ord (p : Option Addr) (n c : Nat) (rs : List Rl) (q : Option Addr) (m d : Nat) (gs : List Gp) (a b : Int) (w : World) (hr : Hid (RulesV w p n c rs)) (hg : Hid (GapsV w q m d gs)) (hE : Hid (chkE rs gs = 0)) (h0 : 0 ≤ a) (h1 : b < a) :
    Calls Try.prog 11 #[.slice p n c, .slice q m d, .int .i64 a, .int .i64 b] w fun e w' => e = .returned (.tuple #[.slice none 0 0, .int .i64 1]) ∧ Below w.heap.size w w' := by
  have d1 : decide (a < 0) = false := decide_eq_false (by omega)
  have d2 : decide (b < a) = true := decide_eq_true h1
  go_enter Try.func11, Try.ntmps11
  go_wp2_with (go_at_call 13; (with_reducible refine (rcheck_is p n c rs q m d gs 0 _ hr hg hE).mono ?_); rintro e w1 ⟨rfl, hb⟩; have B1 := Lib.hid hb; clear hb)
  go_ret2
  exact ⟨rfl, B1.out⟩
set_option maxRecDepth 100000 in
set_option maxHeartbeats 8000000 in
theorem rmom_end (p : Option Addr) (n c : Nat) (rs : List Rl) (q : Option Addr) (m d : Nat) (gs : List Gp) (a b : Int) (w : World) (hr : Hid (RulesV w p n c rs)) (hg : Hid (GapsV w q m d gs)) (hE : Hid (chkE rs gs = 0)) (h0 : 0 ≤ a) (h1 : a ≤ b) (h2 : 2097152 < b) :
    Calls Try.prog 11 #[.slice p n c, .slice q m d, .int .i64 a, .int .i64 b] w fun e w' => e = .returned (.tuple #[.slice none 0 0, .int .i64 1]) ∧ Below w.heap.size w w' := by
  have d1 : decide (a < 0) = false := decide_eq_false (by omega)
  have d2 : decide (b < a) = false := decide_eq_false (by omega)
  have d3 : decide (2097152 < b) = true := decide_eq_true h2
  go_enter Try.func11, Try.ntmps11
  go_wp2_with (go_at_call 13; (with_reducible refine (rcheck_is p n c rs q m d gs 0 _ hr hg hE).mono ?_); rintro e w1 ⟨rfl, hb⟩; have B1 := Lib.hid hb; clear hb)
  go_ret2
  exact ⟨rfl, B1.out⟩
set_option maxRecDepth 100000 in
set_option maxHeartbeats 8000000 in
theorem rmom_run (p : Option Addr) (n c : Nat) (rs : List Rl) (q : Option Addr) (m d : Nat) (gs : List Gp) (a b : Int) (w : World) (hr : Hid (RulesV w p n c rs)) (hg : Hid (GapsV w q m d gs)) (hE : Hid (chkE rs gs = 0)) (h0 : 0 ≤ a) (h1 : a ≤ b) (h2 : b ≤ 2097152) :
    Calls Try.prog 11 #[.slice p n c, .slice q m d, .int .i64 a, .int .i64 b] w fun e w' => ∃ v, e = .returned (.tuple #[v, .int .i64 (momE rs gs a b)]) ∧ OwnI w' w.heap.size v (momR rs gs a b) ∧ Below w.heap.size w w' := by
  have d1 : decide (a < 0) = false := decide_eq_false (by omega)
  have d2 : decide (b < a) = false := decide_eq_false (by omega)
  have d3 : decide (2097152 < b) = false := decide_eq_false (by omega)
  have hV := chk_valid hE.out
  have HVV := Lib.hid hV.1
  have h16 : n ≤ 16 := by have := hV.2.1; have := hr.out.len; omega
  have h64 : m ≤ 64 := by have := hV.2.2; have := hg.out.len; omega
  clear hV
  go_enter Try.func11, Try.ntmps11
  go_upto_region 7 with (go_at_call 13; (with_reducible refine (rcheck_is p n c rs q m d gs 0 _ hr hg hE).mono ?_); rintro e w1 ⟨rfl, hb⟩; have B1 := Lib.hid hb; clear hb)
  obtain ⟨u0, hu0⟩ : ∃ u, nx rs gs a = u := ⟨_, rfl⟩
  have HN0 := (rnext_is p n c rs q m d gs a w1 (Lib.hid (hr.out.below B1.out)) (Lib.hid (hg.out.below B1.out)) HVV h16 h64 h0 (by omega))
  rw [hu0] at HN0
  have HU0 := Lib.hid hu0
  clear hu0
  go_wp2_with (go_at_call 20; (with_reducible refine HN0.mono ?_); rintro e w2 ⟨rfl, hb⟩; have B2 := Lib.hid (bel_trans B1.out hb); clear hb)
  clear HN0
  go_loopw [11, 12] (fun l x wr => ∃ (pre : List Int) (t u : Int) (v : Value), v = l ∧ x = .int .i64 u ∧ 0 ≤ t ∧ t ≤ 2097152 ∧ Hid (nx rs gs t = u) ∧ Hid (depL rs gs a = pre ++ depL rs gs t) ∧ Hid (∀ s ∈ pre, s < b) ∧ pre.length ≤ 2000 ∧ Hid (OwnI wr w.heap.size v pre) ∧ Hid (Below w.heap.size w wr)) (fun _ x _ => (2097153 - intOf x).toNat)
  case atStart => exact ⟨[], a, u0, .slice none 0 0, rfl, rfl, h0, by omega, HU0, Lib.hid rfl, Lib.hid (by simp), by simp, Lib.hid (World.ownsRow_nil _ _ _ _), B2⟩
  case round =>
    clear B1 B2 HU0
    obtain ⟨pre, t, u, v, rfl, rfl, ht0, ht1, HU, HD, HP, hp2, HO, HB⟩ := hrel
    obtain ⟨pv, cv, hv, hz, hz1, hz2, hz3⟩ := ownI_src HO.out
    subst hv
    clear hz hz3
    have hur := nx_rng (rs := rs) (gs := gs) ht1
    rw [HU.out] at hur
    by_cases hub : u < b
    · have d5 : decide (u < b) = true := decide_eq_true hub
      have HCO := Lib.hid (nx_cons HU.out (by omega)).1
      by_cases h2k : pre.length = 2000
      · have HBG := Lib.hid (show momE rs gs a b = 2 from momE_big hE.out (by unfold badB; rw [d1, d2, d3]; rfl) (by
          have := mom_big HD.out HP.out (by rw [HU.out]; omega) (by rw [HU.out]; exact hub); omega))
        have d6 : decide ((pre.length : Int) = 2000) = true := decide_eq_true (by omega)
        have d7 : ((pre.length : Int) == 2000) = true := by simp; omega
        clear h2k HCO
        go_wp2_with fail
        go_ret2
        exact ⟨.slice none 0 0, by rw [HBG.out]; rfl, by rw [momR_nil (by rw [HBG.out]; decide)]; exact World.ownsRow_nil _ _ _ _, HB.out⟩
      · have d6 : decide ((pre.length : Int) = 2000) = false := decide_eq_false (by omega)
        have d7 : ((pre.length : Int) == 2000) = false := by simp; omega
        have hwr := HB.out.size
        have hp3 : pre.length + 1 ≤ 2000 := by omega
        clear h2k
        go_upto_region 12 with (at_builtin; refine appI rfl (.tmp 40) (.tmp 42) rfl w.heap.size (.slice pv pre.length cv) pre rfl (ownI_alloc HO.out _) (some ⟨wr.heap.size, 0, none⟩) 1 1 [u] rfl ⟨rfl, .inr ⟨wr.heap.size, 0, rfl, by simp, fun j hj => by
          have hj0 : j = 0 := by simp at hj; exact hj
          subst hj0; exact (Blk.new wr #[.int .i64 u] _).one⟩⟩ (by simp; omega) (by rw [World.size_alloc]; omega) ?_; intro v3 w3 ho hg3; have HO3 := Lib.hid ho; have B3 := Lib.hid (show Below w.heap.size w w3 from bel_grownI (HB.out.alloc hwr _) (ownI_alloc HO.out _) hg3 (by rw [World.size_alloc]; omega)); clear ho hg3)
        have hw1 : IntKind.i64.wrap (u + 1) = u + 1 := by rw [IntKind.wrap_i64]; omega
        obtain ⟨u9, hu9⟩ : ∃ u9, nx rs gs (u + 1) = u9 := ⟨_, rfl⟩
        have HN := (rnext_is p n c rs q m d gs (u + 1) w3 (Lib.hid (hr.out.below B3.out)) (Lib.hid (hg.out.below B3.out)) HVV h16 h64 (by omega) (by omega))
        rw [hu9] at HN
        have HU9 := Lib.hid hu9
        have hur9 := nx_rng (rs := rs) (gs := gs) (t := u + 1) (by omega)
        rw [hu9] at hur9
        clear hu9
        go_wp2_with (go_at_call 20; (with_reducible refine HN.mono ?_); rintro e w4 ⟨rfl, hb⟩; have B4 := Lib.hid (bel_trans B3.out hb); have HO4 := Lib.hid (ownI_below HO3.out hb); clear hb)
        go_roundw
        case rel => exact ⟨pre ++ [u], u + 1, u9, _, rfl, rfl, by omega, by omega, HU9, Lib.hid (by rw [HD.out, HCO.out, List.append_assoc]; rfl), Lib.hid (fun s hs => (List.mem_append.1 hs).elim (HP.out s) (fun h => by rw [List.mem_singleton.1 h]; exact hub)), by rw [List.length_append, List.length_singleton]; omega, HO4, B4⟩
        case measure => simp [intOf]; omega
    · have d5 : decide (u < b) = false := decide_eq_false hub
      have HM := Lib.hid (mom_cut HD.out HP.out (by rw [HU.out]; omega))
      have hME := Lib.hid (show momE rs gs a b = 0 from momE_ok hE.out (by unfold badB; rw [d1, d2, d3]; rfl) (by rw [HM.out]; exact hp2))
      go_wp2_with fail
      go_ret2
      exact ⟨.slice pv pre.length cv, by rw [hME.out]; rfl, by rw [momR_ok hME.out, HM.out]; exact HO.out, HB.out⟩
theorem rmom_is (p : Option Addr) (n c : Nat) (rs : List Rl) (q : Option Addr) (m d : Nat) (gs : List Gp) (a b : Int) (w : World) (hr : Hid (RulesV w p n c rs)) (hg : Hid (GapsV w q m d gs)) : Calls Try.prog 11 #[.slice p n c, .slice q m d, .int .i64 a, .int .i64 b] w fun e w' => ∃ v, e = .returned (.tuple #[v, .int .i64 (momE rs gs a b)]) ∧ OwnI w' w.heap.size v (momR rs gs a b) ∧ Below w.heap.size w w' := by
  have nil : ∀ (E : Int), momE rs gs a b = E → ¬ E = 0 → (Calls Try.prog 11 #[.slice p n c, .slice q m d, .int .i64 a, .int .i64 b] w fun e w' => e = .returned (.tuple #[.slice none 0 0, .int .i64 E]) ∧ Below w.heap.size w w') → Calls Try.prog 11 #[.slice p n c, .slice q m d, .int .i64 a, .int .i64 b] w fun e w' => ∃ v, e = .returned (.tuple #[v, .int .i64 (momE rs gs a b)]) ∧ OwnI w' w.heap.size v (momR rs gs a b) ∧ Below w.heap.size w w' := fun E h1 h2 h => h.mono (by
    rintro e w' ⟨rfl, hb⟩
    exact ⟨_, by rw [h1], by rw [momR_nil (by rw [h1]; exact h2)]; exact World.ownsRow_nil _ _ _ _, hb⟩)
  by_cases hE : chkE rs gs = 0
  · by_cases h0 : a < 0
    · exact nil 1 (momE_bad hE (by unfold badB; simp [h0])) (by omega) (rmom_neg p n c rs q m d gs a b w hr hg (Lib.hid hE) h0)
    by_cases h1 : b < a
    · exact nil 1 (momE_bad hE (by unfold badB; simp [h1])) (by omega) (rmom_ord p n c rs q m d gs a b w hr hg (Lib.hid hE) (by omega) h1)
    by_cases h2 : 2097152 < b
    · exact nil 1 (momE_bad hE (by unfold badB; simp [h2])) (by omega) (rmom_end p n c rs q m d gs a b w hr hg (Lib.hid hE) (by omega) (by omega) h2)
    exact rmom_run p n c rs q m d gs a b w hr hg (Lib.hid hE) (by omega) (by omega) (by omega)
  · exact nil _ (momE_chk hE) hE (rmom_chk p n c rs q m d gs a b w hr hg _ (Lib.hid rfl) hE)
set_option maxRecDepth 100000 in
set_option maxHeartbeats 8000000 in
theorem rnxt_chk (p : Option Addr) (n c : Nat) (rs : List Rl) (q : Option Addr) (m d : Nat) (gs : List Gp) (a : Int) (w : World) (hr : Hid (RulesV w p n c rs)) (hg : Hid (GapsV w q m d gs)) (E : Int) (hE : Hid (chkE rs gs = E)) (hne : ¬ E = 0) :
    Calls Try.prog 16 #[.slice p n c, .slice q m d, .int .i64 a] w fun e w' => e = .returned (.tuple #[.int .i64 0, .bool false, .int .i64 E]) ∧ Below w.heap.size w w' := by
  have hd1 : decide (E = 0) = false := decide_eq_false hne
  have hd2 : (E == 0) = false := by simpa using hne
  go_enter Try.func16, Try.ntmps16
  go_wp2_with (go_at_call 13; (with_reducible refine (rcheck_is p n c rs q m d gs E _ hr hg hE).mono ?_); rintro e w1 ⟨rfl, hb⟩; have B1 := Lib.hid hb; clear hb)
  refine bodyPost_ret (v := .tuple #[.int .i64 0, .bool false, .int .i64 E]) (by simp [results, Try.results16, go_sem]) rfl ⟨rfl, B1.out⟩
set_option maxRecDepth 100000 in
set_option maxHeartbeats 8000000 in
theorem rnxt_neg (p : Option Addr) (n c : Nat) (rs : List Rl) (q : Option Addr) (m d : Nat) (gs : List Gp) (a : Int) (w : World) (hr : Hid (RulesV w p n c rs)) (hg : Hid (GapsV w q m d gs)) (hE : Hid (chkE rs gs = 0)) (h0 : a < 0) :
    Calls Try.prog 16 #[.slice p n c, .slice q m d, .int .i64 a] w fun e w' => e = .returned (.tuple #[.int .i64 0, .bool false, .int .i64 1]) ∧ Below w.heap.size w w' := by
  have d1 : decide (a < 0) = true := decide_eq_true h0
  go_enter Try.func16, Try.ntmps16
  go_wp2_with (go_at_call 13; (with_reducible refine (rcheck_is p n c rs q m d gs 0 _ hr hg hE).mono ?_); rintro e w1 ⟨rfl, hb⟩; have B1 := Lib.hid hb; clear hb)
  refine bodyPost_ret (v := .tuple #[.int .i64 0, .bool false, .int .i64 1]) (by simp [results, Try.results16, go_sem]) rfl ⟨rfl, B1.out⟩
set_option maxRecDepth 100000 in
set_option maxHeartbeats 8000000 in
theorem rnxt_end (p : Option Addr) (n c : Nat) (rs : List Rl) (q : Option Addr) (m d : Nat) (gs : List Gp) (a : Int) (w : World) (hr : Hid (RulesV w p n c rs)) (hg : Hid (GapsV w q m d gs)) (hE : Hid (chkE rs gs = 0)) (h0 : 0 ≤ a) (h2 : 2097152 < a) :
    Calls Try.prog 16 #[.slice p n c, .slice q m d, .int .i64 a] w fun e w' => e = .returned (.tuple #[.int .i64 0, .bool false, .int .i64 1]) ∧ Below w.heap.size w w' := by
  have d1 : decide (a < 0) = false := decide_eq_false (by omega)
  have d3 : decide (2097152 < a) = true := decide_eq_true h2
  go_enter Try.func16, Try.ntmps16
  go_wp2_with (go_at_call 13; (with_reducible refine (rcheck_is p n c rs q m d gs 0 _ hr hg hE).mono ?_); rintro e w1 ⟨rfl, hb⟩; have B1 := Lib.hid hb; clear hb)
  refine bodyPost_ret (v := .tuple #[.int .i64 0, .bool false, .int .i64 1]) (by simp [results, Try.results16, go_sem]) rfl ⟨rfl, B1.out⟩
set_option maxRecDepth 100000 in
set_option maxHeartbeats 8000000 in
theorem rnxt_run (p : Option Addr) (n c : Nat) (rs : List Rl) (q : Option Addr) (m d : Nat) (gs : List Gp) (a : Int) (w : World) (hr : Hid (RulesV w p n c rs)) (hg : Hid (GapsV w q m d gs)) (hE : Hid (chkE rs gs = 0)) (h0 : 0 ≤ a) (h2 : a ≤ 2097152) :
    Calls Try.prog 16 #[.slice p n c, .slice q m d, .int .i64 a] w fun e w' => e = .returned (.tuple #[.int .i64 (nxtM rs gs a), .bool (nxtB rs gs a), .int .i64 (nxtE rs gs a)]) ∧ Below w.heap.size w w' := by
  have d1 : decide (a < 0) = false := decide_eq_false (by omega)
  have d3 : decide (2097152 < a) = false := decide_eq_false (by omega)
  have hV := chk_valid hE.out
  have HVV := Lib.hid hV.1
  have h16 : n ≤ 16 := by have := hV.2.1; have := hr.out.len; omega
  have h64 : m ≤ 64 := by have := hV.2.2; have := hg.out.len; omega
  clear hV
  have hNE := nxtE_ok (rs := rs) (gs := gs) (a := a) hE.out (by unfold farB; rw [d1, d3]; rfl)
  obtain ⟨u, hu⟩ : ∃ u, nx rs gs a = u := ⟨_, rfl⟩
  by_cases hE2 : u < 2097152
  · have hc := nx_cons hu hE2
    have hNM := nxt_some hNE hc.1
    have dE : decide (u = 2097152) = false := decide_eq_false (by omega)
    have dF : (u == 2097152) = false := by simp; omega
    have HNN := Lib.hid hNM
    have HNE := Lib.hid hNE
    clear hc hNM hNE hE2
    have HU := Lib.hid hu
    clear hu
    go_enter Try.func16, Try.ntmps16
    go_upto_region 6 with (go_at_call 13; (with_reducible refine (rcheck_is p n c rs q m d gs 0 _ hr hg hE).mono ?_); rintro e w1 ⟨rfl, hb⟩; have B1 := Lib.hid hb; clear hb)
    have HN := (rnext_is p n c rs q m d gs a w1 (Lib.hid (hr.out.below B1.out)) (Lib.hid (hg.out.below B1.out)) HVV h16 h64 h0 h2)
    rw [HU.out] at HN
    go_wp2_with (go_at_call 20; (with_reducible refine HN.mono ?_); rintro e w2 ⟨rfl, hb⟩; have B2 := Lib.hid (bel_trans B1.out hb); clear hb)
    rw [HNN.out.1, HNN.out.2, HNE.out]
    refine bodyPost_ret (v := .tuple #[.int .i64 u, .bool true, .int .i64 0]) (by simp [results, Try.results16, go_sem]) rfl ⟨rfl, B2.out⟩
  · have hc := nx_none (rs := rs) (gs := gs) (t := a) (by rw [hu]; exact hE2)
    have hur := nx_rng (rs := rs) (gs := gs) h2
    rw [hu] at hur
    have hue : u = 2097152 := by omega
    subst hue
    have hNM := nxt_none hNE hc
    have HNN := Lib.hid hNM
    have HNE := Lib.hid hNE
    have HU := Lib.hid hu
    clear hc hNM hNE hE2 hu hur
    go_enter Try.func16, Try.ntmps16
    go_upto_region 6 with (go_at_call 13; (with_reducible refine (rcheck_is p n c rs q m d gs 0 _ hr hg hE).mono ?_); rintro e w1 ⟨rfl, hb⟩; have B1 := Lib.hid hb; clear hb)
    have HN := (rnext_is p n c rs q m d gs a w1 (Lib.hid (hr.out.below B1.out)) (Lib.hid (hg.out.below B1.out)) HVV h16 h64 h0 h2)
    rw [HU.out] at HN
    go_wp2_with (go_at_call 20; (with_reducible refine HN.mono ?_); rintro e w2 ⟨rfl, hb⟩; have B2 := Lib.hid (bel_trans B1.out hb); clear hb)
    rw [HNN.out.1, HNN.out.2, HNE.out]
    refine bodyPost_ret (v := .tuple #[.int .i64 0, .bool false, .int .i64 0]) (by simp [results, Try.results16, go_sem]) rfl ⟨rfl, B2.out⟩
theorem rnxt_is (p : Option Addr) (n c : Nat) (rs : List Rl) (q : Option Addr) (m d : Nat) (gs : List Gp) (a : Int) (w : World) (hr : Hid (RulesV w p n c rs)) (hg : Hid (GapsV w q m d gs)) : Calls Try.prog 16 #[.slice p n c, .slice q m d, .int .i64 a] w fun e w' => e = .returned (.tuple #[.int .i64 (nxtM rs gs a), .bool (nxtB rs gs a), .int .i64 (nxtE rs gs a)]) ∧ Below w.heap.size w w' := by
  have nil : ∀ (E : Int), nxtE rs gs a = E → ¬ E = 0 → (Calls Try.prog 16 #[.slice p n c, .slice q m d, .int .i64 a] w fun e w' => e = .returned (.tuple #[.int .i64 0, .bool false, .int .i64 E]) ∧ Below w.heap.size w w') → Calls Try.prog 16 #[.slice p n c, .slice q m d, .int .i64 a] w fun e w' => e = .returned (.tuple #[.int .i64 (nxtM rs gs a), .bool (nxtB rs gs a), .int .i64 (nxtE rs gs a)]) ∧ Below w.heap.size w w' := fun E h1 h2 h => h.mono (by
    rintro e w' ⟨rfl, hb⟩
    have h3 := nxt_nil (rs := rs) (gs := gs) (a := a) (by rw [h1]; exact h2)
    exact ⟨by rw [h1, h3.1, h3.2], hb⟩)
  by_cases hE : chkE rs gs = 0
  · by_cases h0 : a < 0
    · exact nil 1 (nxtE_bad hE (by unfold farB; simp [h0])) (by omega) (rnxt_neg p n c rs q m d gs a w hr hg (Lib.hid hE) h0)
    by_cases h2 : 2097152 < a
    · exact nil 1 (nxtE_bad hE (by unfold farB; simp [h2])) (by omega) (rnxt_end p n c rs q m d gs a w hr hg (Lib.hid hE) (by omega) h2)
    exact rnxt_run p n c rs q m d gs a w hr hg (Lib.hid hE) (by omega) (by omega)
  · exact nil _ (nxtE_chk hE) hE (rnxt_chk p n c rs q m d gs a w hr hg _ (Lib.hid rfl) hE)
end Go.Proofs.Ytilokkkodocoiaa
