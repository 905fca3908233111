/- Departures in plain numbers. -/
import Derived.Test.YtilokkkodocoiaaLawKit
namespace Go.Proofs.Ytilokkkodocoiaa
set_option linter.unusedVariables false
set_option linter.unusedSimpArgs false

abbrev Rl := Int × Int × Int
abbrev Gp := Int × Int
def rl0 : Rl := (0, 0, 0)
def gp0 : Gp := (0, 0)
def okP (a b : Int) : Bool := decide (0 ≤ a) && (decide (a < b) && decide (b ≤ 2097152))
def okR (r : Rl) : Bool := okP r.1 r.2.1 && (decide (1 ≤ r.2.2) && decide (r.2.2 ≤ 2097152))
def gapOk (gs : List Gp) (i : Nat) : Bool := okP (gs.getD i gp0).1 (gs.getD i gp0).2 && (decide (i = 0) || decide ((gs.getD (i - 1) gp0).2 < (gs.getD i gp0).1))
theorem okP_iff {a b : Int} : okP a b = true ↔ 0 ≤ a ∧ a < b ∧ b ≤ 2097152 := by unfold okP; simp
theorem okR_iff {r : Rl} : okR r = true ↔ (0 ≤ r.1 ∧ r.1 < r.2.1 ∧ r.2.1 ≤ 2097152) ∧ 1 ≤ r.2.2 ∧ r.2.2 ≤ 2097152 := by unfold okR; rw [Bool.and_eq_true, okP_iff]; simp
/-- rules and gaps are in order -/
structure Valid (rs : List Rl) (gs : List Gp) : Prop where
  r : ∀ x ∈ rs, okR x = true
  g : ∀ i, i < gs.length → gapOk gs i = true
theorem Valid.gap {rs : List Rl} {gs : List Gp} (h : Valid rs gs) {i : Nat} (hi : i < gs.length) : 0 ≤ (gs.getD i gp0).1 ∧ (gs.getD i gp0).1 < (gs.getD i gp0).2 ∧ (gs.getD i gp0).2 ≤ 2097152 := by
  have := h.g i hi
  unfold gapOk at this
  rw [Bool.and_eq_true] at this
  exact okP_iff.1 this.1
def hitB (r : Rl) (t : Int) : Bool := decide (r.1 ≤ t) && decide (t < r.2.1) && decide ((t - r.1) % r.2.2 = 0)
def gapB (g : Gp) (t : Int) : Bool := decide (g.1 ≤ t) && decide (t < g.2)
def depB (rs : List Rl) (gs : List Gp) (t : Int) : Bool := !(gs.any (gapB · t)) && rs.any (hitB · t)
/-- all departures from a time on -/
def depL (rs : List Rl) (gs : List Gp) (a : Int) : List Int := ((List.range (2097152 - a).toNat).map (fun k : Nat => a + (k : Int))).filter (depB rs gs)
section
variable {rs : List Rl} {gs : List Gp} {a b : Int}
theorem depL_end (h : 2097152 ≤ a) : depL rs gs a = [] := by
  unfold depL; rw [show (2097152 - a).toNat = 0 by omega]; rfl
theorem depL_cons (h : a < 2097152) : depL rs gs a = if depB rs gs a then a :: depL rs gs (a + 1) else depL rs gs (a + 1) := by
  unfold depL
  obtain ⟨n, hn⟩ : ∃ n, (2097152 - (a + 1)).toNat = n := ⟨_, rfl⟩
  rw [hn, show (2097152 - a).toNat = n + 1 by omega, List.range_succ_eq_map, List.map_cons, List.map_map, List.filter_cons]
  have e : (List.range n).map ((fun k : Nat => a + (k : Int)) ∘ Nat.succ) = (List.range n).map (fun k : Nat => a + 1 + (k : Int)) := by
    apply List.map_congr_left
    intro k _
    simp only [Function.comp]
    omega
  rw [e, show a + ((0 : Nat) : Int) = a by simp]
theorem depL_hit (h : a < 2097152) (d : depB rs gs a = true) : depL rs gs a = a :: depL rs gs (a + 1) := by rw [depL_cons h, d]; rfl
theorem depL_skipN : ∀ (k : Nat) (a : Int), (∀ t, a ≤ t → t < a + k → depB rs gs t = false) → depL rs gs a = depL rs gs (a + k)
  | 0, a, _ => by simp
  | k + 1, a, h => by
    by_cases ha : a < 2097152
    · rw [depL_cons ha, h a (Int.le_refl _) (by omega), depL_skipN k (a + 1) (fun t h1 h2 => h t (by omega) (by omega))]
      rw [show a + 1 + (k : Int) = a + ((k + 1 : Nat) : Int) by omega]; rfl
    · rw [depL_end (by omega), depL_end (by omega)]
theorem depL_skip (hab : a ≤ b) (h : ∀ t, a ≤ t → t < b → depB rs gs t = false) : depL rs gs a = depL rs gs b := by
  obtain ⟨k, rfl⟩ : ∃ k : Nat, b = a + k := ⟨(b - a).toNat, by omega⟩
  exact depL_skipN k a h
theorem mem_depL {t : Int} : t ∈ depL rs gs a ↔ a ≤ t ∧ t < 2097152 ∧ depB rs gs t = true := by
  unfold depL
  rw [List.mem_filter, List.mem_map]
  constructor
  · rintro ⟨⟨k, hk, rfl⟩, h⟩
    rw [List.mem_range] at hk
    exact ⟨by omega, by omega, h⟩
  · rintro ⟨h1, h2, h3⟩
    exact ⟨⟨(t - a).toNat, by rw [List.mem_range]; omega, by omega⟩, h3⟩
theorem depL_len : (depL rs gs a).length ≤ (2097152 - a).toNat := by
  unfold depL
  refine Nat.le_trans (List.length_filter_le _ _) ?_
  simp
theorem depL_sorted : ∀ (k : Nat) (a : Int), (2097152 - a).toNat = k → (depL rs gs a).Pairwise (· < ·)
  | 0, a, h => by rw [depL_end (by omega)]; exact .nil
  | k + 1, a, h => by
    rw [depL_cons (by omega)]
    have ih := depL_sorted k (a + 1) (by omega)
    cases depB rs gs a
    · exact ih
    · exact .cons (fun t ht => by have := (mem_depL.1 ht).1; omega) ih
theorem depL_inc : (depL rs gs a).Pairwise (· < ·) := depL_sorted _ _ rfl
end
/-- the first time of a rule from a time on -/
def fol0 (r : Rl) (a : Int) : Int := if r.1 < a then r.1 + (a - r.1 + r.2.2 - 1) / r.2.2 * r.2.2 else r.1
def fol (r : Rl) (a : Int) : Int := if r.2.1 ≤ fol0 r a then 2097152 else fol0 r a
theorem ceil_lo {x e : Int} (he : 1 ≤ e) : x ≤ (x + e - 1) / e * e := by
  have h1 := Int.emod_add_mul_ediv (x + e - 1) e
  have h2 := Int.emod_lt_of_pos (x + e - 1) (show 0 < e by omega)
  rw [Int.mul_comm] at h1
  omega
theorem ceil_hi {x e q : Int} (he : 1 ≤ e) (h : x ≤ q * e) : (x + e - 1) / e * e ≤ q * e := by
  refine Int.mul_le_mul_of_nonneg_right ?_ (by omega)
  have h3 : (x + e - 1) / e < q + 1 := Int.ediv_lt_of_lt_mul (by omega) (by rw [Int.add_mul]; omega)
  omega
section
variable {r : Rl} {a : Int}
theorem fol0_lo (h : okR r = true) : a ≤ fol0 r a ∧ r.1 ≤ fol0 r a := by
  have h := okR_iff.1 h
  unfold fol0
  split
  · have := ceil_lo (x := a - r.1) h.2.1; omega
  · omega
theorem fol0_mod (h : okR r = true) : (fol0 r a - r.1) % r.2.2 = 0 := by
  unfold fol0
  split
  · rw [show r.1 + (a - r.1 + r.2.2 - 1) / r.2.2 * r.2.2 - r.1 = (a - r.1 + r.2.2 - 1) / r.2.2 * r.2.2 by omega]; exact Int.mul_emod_left _ _
  · rw [Int.sub_self]; rfl
theorem fol0_le (h : okR r = true) {t : Int} (ht : a ≤ t) (hh : hitB r t = true) : fol0 r a ≤ t := by
  have h := okR_iff.1 h
  unfold hitB at hh
  simp only [Bool.and_eq_true, decide_eq_true_eq] at hh
  unfold fol0
  split
  · have hq := Int.emod_add_mul_ediv (t - r.1) r.2.2
    rw [hh.2, Int.mul_comm] at hq
    have := ceil_hi (x := a - r.1) (q := (t - r.1) / r.2.2) h.2.1 (by omega)
    omega
  · omega
theorem fol_lo (h : okR r = true) (ha : a ≤ 2097152) : a ≤ fol r a ∧ fol r a ≤ 2097152 := by
  have h1 := (fol0_lo (a := a) h).1
  have h2 := okR_iff.1 h
  unfold fol
  split <;> omega
theorem fol_hit (h : okR r = true) (hl : fol r a < 2097152) : hitB r (fol r a) = true := by
  unfold fol at hl ⊢
  split at hl
  · omega
  · rename_i hn
    rw [if_neg hn]
    unfold hitB
    have := fol0_lo (a := a) h
    simp only [Bool.and_eq_true, decide_eq_true_eq]
    exact ⟨⟨this.2, by omega⟩, fol0_mod h⟩
theorem fol_no (h : okR r = true) {t : Int} (h1 : a ≤ t) (h2 : t < fol r a) : hitB r t = false := by
  cases hh : hitB r t with
  | false => rfl
  | true =>
    have h3 := fol0_le h h1 hh
    unfold hitB at hh
    simp only [Bool.and_eq_true, decide_eq_true_eq] at hh
    unfold fol at h2
    split at h2 <;> omega
end
/-- the least of the first times of some rules -/
def folM (rs : List Rl) (a : Int) : Int := rs.foldl (fun m r => min m (fol r a)) 2097152
theorem folM_go {a : Int} (ha : a ≤ 2097152) : ∀ (rs : List Rl) (m : Int), (∀ x ∈ rs, okR x = true) → a ≤ m → m ≤ 2097152 →
    a ≤ rs.foldl (fun m r => min m (fol r a)) m ∧ rs.foldl (fun m r => min m (fol r a)) m ≤ m ∧ (∀ r ∈ rs, rs.foldl (fun m r => min m (fol r a)) m ≤ fol r a) ∧ (rs.foldl (fun m r => min m (fol r a)) m = m ∨ ∃ r ∈ rs, fol r a = rs.foldl (fun m r => min m (fol r a)) m)
  | [], m, _, h1, h2 => ⟨h1, Int.le_refl _, by simp, .inl rfl⟩
  | x :: rs, m, hv, h1, h2 => by
    have hx := fol_lo (hv x List.mem_cons_self) ha
    obtain ⟨i1, i2, i3, i4⟩ := folM_go ha rs (min m (fol x a)) (fun y hy => hv y (List.mem_cons_of_mem _ hy)) (by omega) (by omega)
    simp only [List.foldl_cons]
    refine ⟨i1, by omega, ?_, ?_⟩
    · intro r hr
      rcases List.mem_cons.1 hr with rfl | hr
      · omega
      · exact i3 r hr
    · rcases i4 with i4 | ⟨r, hr, i4⟩
      · rcases Int.le_total m (fol x a) with hc | hc
        · left; rw [i4]; omega
        · right; exact ⟨x, List.mem_cons_self, by rw [i4]; omega⟩
      · exact .inr ⟨r, List.mem_cons_of_mem _ hr, i4⟩
section
variable {rs : List Rl} {gs : List Gp} {a : Int}
theorem folM_lo (hv : Valid rs gs) (ha : a ≤ 2097152) : a ≤ folM rs a ∧ folM rs a ≤ 2097152 := by
  have := folM_go ha rs 2097152 hv.r ha (Int.le_refl _)
  exact ⟨this.1, this.2.1⟩
theorem folM_skip (hv : Valid rs gs) (ha : a ≤ 2097152) : depL rs gs a = depL rs gs (folM rs a) := by
  have hf := folM_go ha rs 2097152 hv.r ha (Int.le_refl _)
  refine depL_skip hf.1 fun t h1 h2 => ?_
  unfold depB
  rw [Bool.and_eq_false_iff]; right
  rw [List.any_eq_false]
  intro r hr
  rw [fol_no (hv.r r hr) h1 (Int.lt_of_lt_of_le h2 (hf.2.2.1 r hr))]; simp
theorem folM_hit (hv : Valid rs gs) (ha : a ≤ 2097152) (hl : folM rs a < 2097152) : rs.any (hitB · (folM rs a)) = true := by
  have hf := folM_go ha rs 2097152 hv.r ha (Int.le_refl _)
  rcases hf.2.2.2 with h | ⟨r, hr, h⟩
  · unfold folM at hl; omega
  · rw [List.any_eq_true]
    refine ⟨r, hr, ?_⟩
    have h' : fol r a = folM rs a := h
    rw [← h']
    exact fol_hit (hv.r r hr) (by rw [h']; exact hl)
theorem gap_skip {g : Gp} (hg : g ∈ gs) {t : Int} (h1 : g.1 ≤ t) (h2 : t < g.2) : depL rs gs t = depL rs gs g.2 := by
  refine depL_skip (by omega) fun u h3 h4 => ?_
  unfold depB
  rw [Bool.and_eq_false_iff]; left
  rw [Bool.not_eq_false', List.any_eq_true]
  exact ⟨g, hg, by unfold gapB; simp; omega⟩
end
/-- the first departure from a time on; the end, if there is none -/
def nx (rs : List Rl) (gs : List Gp) (a : Int) : Int := (depL rs gs a).headD 2097152
/-- the departures from a time on, before another one -/
def momL (rs : List Rl) (gs : List Gp) (a b : Int) : List Int := (depL rs gs a).takeWhile (fun t => decide (t < b))
end Go.Proofs.Ytilokkkodocoiaa
