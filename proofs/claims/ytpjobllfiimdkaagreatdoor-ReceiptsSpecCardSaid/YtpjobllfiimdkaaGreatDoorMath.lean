/- PLAIN NUMBERS: Gauss's lemma, reciprocity of the counts, the primes P and Q; what a loop keeps that tells squares apart. No program is spoken of. -/
namespace Go.Proofs.YtpjobllfiimdkaaGreatDoor.M
set_option linter.unusedVariables false

/-! sums over 1..n -/
def sm (f : Nat → Nat) : Nat → Nat
  | 0 => 0
  | n + 1 => sm f n + f (n + 1)

theorem sm_add (f g : Nat → Nat) (n : Nat) : sm (fun k => f k + g k) n = sm f n + sm g n := by
  induction n with
  | zero => rfl
  | succ n ih => simp only [sm, ih]; omega

theorem sm_congr {f g : Nat → Nat} {n : Nat} (h : ∀ k, 1 ≤ k → k ≤ n → f k = g k) : sm f n = sm g n := by
  induction n with
  | zero => rfl
  | succ n ih =>
    simp only [sm]
    rw [ih (fun k a b => h k a (by omega)), h (n + 1) (by omega) (by omega)]

theorem sm_mod {f g : Nat → Nat} {n : Nat} (h : ∀ k, 1 ≤ k → k ≤ n → f k % 2 = g k % 2) : sm f n % 2 = sm g n % 2 := by
  induction n with
  | zero => rfl
  | succ n ih =>
    simp only [sm]
    have a := ih (fun k a b => h k a (by omega))
    have b := h (n + 1) (by omega) (by omega)
    omega

theorem sm_const (c n : Nat) : sm (fun _ => c) n = n * c := by
  induction n with
  | zero => simp [sm]
  | succ n ih => simp only [sm, ih, Nat.succ_mul]

theorem sm_zero (n : Nat) : sm (fun _ => 0) n = 0 := by rw [sm_const]; rfl

theorem sm_le {f g : Nat → Nat} {n : Nat} (h : ∀ k, 1 ≤ k → k ≤ n → f k ≤ g k) : sm f n ≤ sm g n := by
  induction n with
  | zero => exact Nat.le_refl _
  | succ n ih =>
    simp only [sm]
    have a := ih (fun k a b => h k a (by omega))
    have b := h (n + 1) (by omega) (by omega)
    omega

/-- exchange of two sums -/
theorem sm_swap (f : Nat → Nat → Nat) (m n : Nat) : sm (fun k => sm (fun l => f k l) n) m = sm (fun l => sm (fun k => f k l) m) n := by
  induction m with
  | zero => simp only [sm]; rw [sm_zero]
  | succ m ih => simp only [sm]; rw [ih, ← sm_add]

/-- the list 1..n -/
def up : Nat → List Nat
  | 0 => []
  | n + 1 => (n + 1) :: up n

theorem mem_up {n k : Nat} : k ∈ up n ↔ 1 ≤ k ∧ k ≤ n := by
  induction n with
  | zero => simp [up]; omega
  | succ n ih => simp [up, ih]; omega

theorem nodup_up (n : Nat) : (up n).Nodup := by
  induction n with
  | zero => simp [up]
  | succ n ih => simp only [up, List.nodup_cons]; exact ⟨fun h => by have := mem_up.1 h; omega, ih⟩

theorem length_up (n : Nat) : (up n).length = n := by
  induction n with
  | zero => rfl
  | succ n ih => simp [up, ih]

def ls (f : Nat → Nat) : List Nat → Nat
  | [] => 0
  | x :: l => f x + ls f l

theorem ls_up (f : Nat → Nat) (n : Nat) : ls f (up n) = sm f n := by
  induction n with
  | zero => rfl
  | succ n ih => simp only [up, ls, sm, ih]; omega

theorem ls_map (f g : Nat → Nat) (l : List Nat) : ls f (l.map g) = ls (fun k => f (g k)) l := by
  induction l with
  | nil => rfl
  | cons x l ih => simp only [List.map, ls, ih]

theorem ls_perm (f : Nat → Nat) {l r : List Nat} (h : l.Perm r) : ls f l = ls f r := by
  induction h with
  | nil => rfl
  | cons x _ ih => simp only [ls, ih]
  | swap x y l => simp only [ls]; omega
  | trans _ _ a b => exact a.trans b

theorem perm_of_subset : ∀ {l r : List Nat}, l.Nodup → (∀ x, x ∈ l → x ∈ r) → r.length ≤ l.length → l.Perm r
  | [], r, _, _, h => by
    have : r = [] := List.length_eq_zero_iff.1 (by simpa using h)
    subst this; exact List.Perm.nil
  | a :: l, r, hn, hs, h => by
    have ha : a ∈ r := hs a (by simp)
    have hp := List.perm_cons_erase ha
    rw [List.nodup_cons] at hn
    refine (List.Perm.cons a (perm_of_subset (r := r.erase a) hn.2 ?_ ?_)).trans hp.symm
    · intro x hx
      have hxr := hs x (by simp [hx])
      have hne : x ≠ a := fun e => hn.1 (e ▸ hx)
      exact (List.mem_erase_of_ne hne).2 hxr
    · have := hp.length_eq
      simp at this h; omega

theorem nodup_map {f : Nat → Nat} : ∀ {l : List Nat}, l.Nodup → (∀ x, x ∈ l → ∀ y, y ∈ l → f x = f y → x = y) → (l.map f).Nodup
  | [], _, _ => by simp
  | a :: l, h, hi => by
    rw [List.nodup_cons] at h
    simp only [List.map, List.nodup_cons]
    refine ⟨fun hm => ?_, nodup_map h.2 (fun x hx y hy => hi x (by simp [hx]) y (by simp [hy]))⟩
    obtain ⟨b, hb, e⟩ := List.mem_map.1 hm
    have := hi b (by simp [hb]) a (by simp) e
    exact h.1 (this ▸ hb)

theorem perm_up {f : Nat → Nat} {n : Nat} (h1 : ∀ k, 1 ≤ k → k ≤ n → 1 ≤ f k ∧ f k ≤ n) (h2 : ∀ j k, 1 ≤ j → j ≤ n → 1 ≤ k → k ≤ n → f j = f k → j = k) :
    ((up n).map f).Perm (up n) := by
  refine perm_of_subset (nodup_map (nodup_up n) ?_) ?_ (by simp)
  · intro x hx y hy e; rw [mem_up] at hx hy; exact h2 x y hx.1 hx.2 hy.1 hy.2 e
  · intro x hx
    obtain ⟨k, hk, rfl⟩ := List.mem_map.1 hx
    rw [mem_up] at hk ⊢; exact h1 k hk.1 hk.2

theorem sm_perm {f : Nat → Nat} {n : Nat} (g : Nat → Nat) (h1 : ∀ k, 1 ≤ k → k ≤ n → 1 ≤ f k ∧ f k ≤ n) (h2 : ∀ j k, 1 ≤ j → j ≤ n → 1 ≤ k → k ≤ n → f j = f k → j = k) :
    sm (fun k => g (f k)) n = sm g n := by
  rw [← ls_up, ← ls_up, ← ls_perm g (perm_up h1 h2), ls_map]

/-! Gauss's count -/
/-- is the residue of n (modulo 2h+1) in the upper half -/
def ng (h n : Nat) : Nat := if h < n % (2 * h + 1) then 1 else 0
/-- the residue or its opposite, whichever is at most h -/
def fd (h n : Nat) : Nat := if h < n % (2 * h + 1) then 2 * h + 1 - n % (2 * h + 1) else n % (2 * h + 1)
/-- how many k from 1 to h have k * a in the upper half -/
def gc (h a : Nat) : Nat := sm (fun k => ng h (k * a)) h

theorem gc_mod (h a : Nat) : gc h (a % (2 * h + 1)) = gc h a := by
  unfold gc; refine sm_congr fun k _ _ => ?_
  unfold ng; rw [Nat.mul_mod k (a % (2 * h + 1)), Nat.mod_mod, ← Nat.mul_mod]

theorem dvd_of_mul {m a k : Nat} (hc : Nat.Coprime a m) (h : m ∣ k * a) : m ∣ k := Nat.Coprime.dvd_of_dvd_mul_right hc.symm h

theorem mod_pos {h a k : Nat} (hc : Nat.Coprime a (2 * h + 1)) (h1 : 1 ≤ k) (h2 : k ≤ h) : 1 ≤ (k * a) % (2 * h + 1) := by
  rcases Nat.eq_zero_or_pos ((k * a) % (2 * h + 1)) with e | e
  · have := dvd_of_mul hc (Nat.dvd_of_mod_eq_zero e)
    have := Nat.le_of_dvd (by omega) this
    omega
  · exact e

theorem fd_range {h a k : Nat} (hc : Nat.Coprime a (2 * h + 1)) (h1 : 1 ≤ k) (h2 : k ≤ h) : 1 ≤ fd h (k * a) ∧ fd h (k * a) ≤ h := by
  have hp := mod_pos hc h1 h2
  have hl := Nat.mod_lt (k * a) (y := 2 * h + 1) (by omega)
  unfold fd; split <;> omega

theorem fd_inj {h a j k : Nat} (hc : Nat.Coprime a (2 * h + 1)) (j1 : 1 ≤ j) (j2 : j ≤ h) (h1 : 1 ≤ k) (h2 : k ≤ h) (e : fd h (j * a) = fd h (k * a)) : j = k := by
  have hl := Nat.mod_lt (k * a) (y := 2 * h + 1) (by omega)
  have hl' := Nat.mod_lt (j * a) (y := 2 * h + 1) (by omega)
  -- either the residues are equal or they add up to the modulus
  have key : (j * a) % (2 * h + 1) = (k * a) % (2 * h + 1) ∨ (j * a) % (2 * h + 1) + (k * a) % (2 * h + 1) = 2 * h + 1 := by
    unfold fd at e; split at e <;> split at e <;> omega
  rcases key with e1 | e1
  · -- equal residues
    rcases Nat.lt_trichotomy j k with lt | rfl | gt
    · have hd : 2 * h + 1 ∣ (k - j) * a := by
        rw [Nat.sub_mul]; exact Nat.dvd_of_mod_eq_zero (Nat.sub_mod_eq_zero_of_mod_eq e1.symm)
      have := Nat.le_of_dvd (by omega) (dvd_of_mul hc hd); omega
    · rfl
    · have hd : 2 * h + 1 ∣ (j - k) * a := by
        rw [Nat.sub_mul]; exact Nat.dvd_of_mod_eq_zero (Nat.sub_mod_eq_zero_of_mod_eq e1)
      have := Nat.le_of_dvd (by omega) (dvd_of_mul hc hd); omega
  · have hd : 2 * h + 1 ∣ (j + k) * a := by
      apply Nat.dvd_of_mod_eq_zero
      rw [Nat.add_mul, Nat.add_mod, e1, Nat.mod_self]
    have := Nat.le_of_dvd (by omega) (dvd_of_mul hc hd); omega

/-- the residue is the folded one, or its opposite -/
theorem fd_ng (h n : Nat) : n % (2 * h + 1) = if ng h n = 1 then 2 * h + 1 - fd h n else fd h n := by
  have hl := Nat.mod_lt n (y := 2 * h + 1) (by omega)
  unfold fd ng; split <;> simp <;> omega

theorem ng_fd (h n b : Nat) (hb : 1 ≤ (n * b) % (2 * h + 1)) : ng h (n * b) % 2 = (ng h n + ng h (fd h n * b)) % 2 := by
  have e := fd_ng h n
  have hl := Nat.mod_lt n (y := 2 * h + 1) (by omega)
  have hm : (n * b) % (2 * h + 1) = ((n % (2 * h + 1)) * b) % (2 * h + 1) := by
    rw [Nat.mul_mod n b, Nat.mul_mod (n % (2 * h + 1)) b, Nat.mod_mod]
  rcases Nat.lt_or_ge h (n % (2 * h + 1)) with c | c
  · have hn : ng h n = 1 := by unfold ng; rw [if_pos c]
    have hf : fd h n = 2 * h + 1 - n % (2 * h + 1) := by unfold fd; rw [if_pos c]
    have hs : ((n % (2 * h + 1)) * b) % (2 * h + 1) + (fd h n * b) % (2 * h + 1) = 2 * h + 1 := by
      have hsum : (n % (2 * h + 1)) * b + fd h n * b = (2 * h + 1) * b := by rw [hf, ← Nat.add_mul]; congr 1; omega
      have h0 : ((n % (2 * h + 1)) * b + fd h n * b) % (2 * h + 1) = 0 := by rw [hsum]; exact Nat.mul_mod_right _ _
      rw [Nat.add_mod] at h0
      have l1 := Nat.mod_lt ((n % (2 * h + 1)) * b) (y := 2 * h + 1) (by omega)
      have l2 := Nat.mod_lt (fd h n * b) (y := 2 * h + 1) (by omega)
      have := Nat.dvd_of_mod_eq_zero h0
      obtain ⟨q, hq⟩ := this
      have hp : 1 ≤ ((n % (2 * h + 1)) * b) % (2 * h + 1) := by rw [← hm]; exact hb
      have : q = 1 := by
        rcases Nat.lt_trichotomy q 1 with a | a | a
        · have : q = 0 := by omega
          subst this; omega
        · exact a
        · have : (2 * h + 1) * 2 ≤ (2 * h + 1) * q := Nat.mul_le_mul_left _ (by omega)
          omega
      subst this; omega
    rw [hn]; unfold ng; rw [hm]
    split <;> split <;> omega
  · have hn : ng h n = 0 := by unfold ng; rw [if_neg (by omega)]
    have hf : fd h n = n % (2 * h + 1) := by unfold fd; rw [if_neg (by omega)]
    rw [hn, hf]; unfold ng; rw [hm]; omega

/-- the count is multiplicative, modulo 2 -/
theorem gc_mul {h a b : Nat} (ha : Nat.Coprime a (2 * h + 1)) (hb : Nat.Coprime b (2 * h + 1)) : gc h (a * b) % 2 = (gc h a + gc h b) % 2 := by
  have hab : Nat.Coprime (a * b) (2 * h + 1) := Nat.Coprime.mul_left ha hb
  unfold gc
  rw [← sm_perm (f := fun k => fd h (k * a)) (fun k => ng h (k * b)) (fun k h1 h2 => fd_range ha h1 h2) (fun j k j1 j2 h1 h2 e => fd_inj ha j1 j2 h1 h2 e), ← sm_add]
  refine sm_mod fun k h1 h2 => ?_
  have := mod_pos hab h1 h2
  rw [← Nat.mul_assoc] at this ⊢
  exact ng_fd h (k * a) b this

/-- for odd a, the count and the sum of the quotients have one parity -/
theorem gc_floor {h g : Nat} (hc : Nat.Coprime (2 * g + 1) (2 * h + 1)) : gc h (2 * g + 1) % 2 = sm (fun k => k * (2 * g + 1) / (2 * h + 1)) h % 2 := by
  have e1 : sm (fun k => k) h % 2 = sm (fun k => k * (2 * g + 1) / (2 * h + 1) + (ng h (k * (2 * g + 1)) + fd h (k * (2 * g + 1)))) h % 2 := by
    refine sm_mod fun k h1 h2 => ?_
    have hd := Nat.div_add_mod (k * (2 * g + 1)) (2 * h + 1)
    have hf := fd_ng h (k * (2 * g + 1))
    have hl := Nat.mod_lt (k * (2 * g + 1)) (y := 2 * h + 1) (by omega)
    have hr := fd_range hc h1 h2
    have hng : ng h (k * (2 * g + 1)) = 0 ∨ ng h (k * (2 * g + 1)) = 1 := by unfold ng; split <;> simp
    generalize k * (2 * g + 1) / (2 * h + 1) = q at *
    generalize hr' : k * (2 * g + 1) % (2 * h + 1) = r at *
    generalize fd h (k * (2 * g + 1)) = f at *
    have e2 : (2 * h + 1) * q = 2 * (h * q) + q := by rw [Nat.add_mul, Nat.mul_assoc]; omega
    have e3 : k * (2 * g + 1) = 2 * (k * g) + k := by rw [Nat.mul_add, Nat.mul_left_comm]; omega
    rw [e2, e3] at hd
    generalize ng h (k * (2 * g + 1)) = z at *
    rcases hng with rfl | rfl <;> simp at hf <;> omega
  rw [sm_add, sm_add, sm_perm (f := fun k => fd h (k * (2 * g + 1))) (fun k => k) (fun k h1 h2 => fd_range hc h1 h2) (fun j k j1 j2 h1 h2 e => fd_inj hc j1 j2 h1 h2 e)] at e1
  have : gc h (2 * g + 1) = sm (fun k => ng h (k * (2 * g + 1))) h := rfl
  omega

/-- how many l from 1 to n have l * m < c (c no multiple of m) -/
theorem count_floor {m c n : Nat} (hm : 0 < m) (hn : c / m ≤ n) (hx : ∀ l, 1 ≤ l → l ≤ n → l * m ≠ c) : sm (fun l => if l * m < c then 1 else 0) n = c / m := by
  induction n with
  | zero => simp only [sm]; exact (Nat.le_zero.1 hn).symm
  | succ n ih =>
    simp only [sm]
    rcases Nat.lt_or_ge n (c / m) with h | h
    · -- c / m = n + 1: every l up to n + 1 counts
      have e : c / m = n + 1 := by omega
      have all : sm (fun l => if l * m < c then 1 else 0) n = sm (fun _ => 1) n := by
        refine sm_congr fun k h1 h2 => ?_
        have : (n + 1) * m ≤ c := by rw [← e]; exact Nat.div_mul_le_self c m
        have : k * m < (n + 1) * m := Nat.mul_lt_mul_of_pos_right (by omega) hm
        rw [if_pos (by omega)]
      have last : (n + 1) * m ≤ c := by rw [← e]; exact Nat.div_mul_le_self c m
      have ne := hx (n + 1) (by omega) (by omega)
      rw [all, sm_const, if_pos (by omega)]; omega
    · rw [ih h (fun l a b => hx l a (by omega))]
      have : ¬ (n + 1) * m < c := by
        intro hlt
        have : n + 1 ≤ c / m := (Nat.le_div_iff_mul_le hm).2 (by omega)
        omega
      rw [if_neg this]; omega

theorem floor_le {g h k : Nat} (hk : k ≤ h) : k * (2 * g + 1) / (2 * h + 1) ≤ g := by
  rw [← Nat.lt_succ_iff]
  refine (Nat.div_lt_iff_lt_mul (by omega)).2 ?_
  have : k * (2 * g + 1) ≤ h * (2 * g + 1) := Nat.mul_le_mul_right _ hk
  have e1 : h * (2 * g + 1) = 2 * (h * g) + h := by rw [Nat.mul_add, Nat.mul_left_comm]; omega
  have e2 : (g + 1) * (2 * h + 1) = 2 * (h * g) + g + 2 * h + 1 := by
    rw [Nat.mul_add, Nat.mul_left_comm, Nat.add_mul, Nat.mul_comm g h]; omega
  show _ < (g + 1) * (2 * h + 1)
  omega

/-- no point lies on the diagonal -/
theorem off_diagonal {g h k l : Nat} (hc : Nat.Coprime (2 * g + 1) (2 * h + 1)) (h1 : 1 ≤ k) (h2 : k ≤ h) : l * (2 * h + 1) ≠ k * (2 * g + 1) := by
  intro e
  have := dvd_of_mul hc (k := k) ⟨l, by rw [← e, Nat.mul_comm]⟩
  have := Nat.le_of_dvd (by omega) this
  omega

theorem lattice {g h : Nat} (hc : Nat.Coprime (2 * g + 1) (2 * h + 1)) :
    sm (fun k => k * (2 * g + 1) / (2 * h + 1)) h + sm (fun l => l * (2 * h + 1) / (2 * g + 1)) g = h * g := by
  have a : sm (fun k => k * (2 * g + 1) / (2 * h + 1)) h = sm (fun k => sm (fun l => if l * (2 * h + 1) < k * (2 * g + 1) then 1 else 0) g) h := by
    refine sm_congr fun k h1 h2 => ?_
    exact (count_floor (by omega) (floor_le h2) (fun l _ _ => off_diagonal hc h1 h2)).symm
  have b : sm (fun l => l * (2 * h + 1) / (2 * g + 1)) g = sm (fun l => sm (fun k => if k * (2 * g + 1) < l * (2 * h + 1) then 1 else 0) h) g := by
    refine sm_congr fun l h1 h2 => ?_
    exact (count_floor (by omega) (floor_le h2) (fun k k1 k2 e => off_diagonal hc k1 k2 e.symm)).symm
  rw [a, b, sm_swap (fun l k => if k * (2 * g + 1) < l * (2 * h + 1) then 1 else 0), ← sm_add]
  have : sm (fun k => sm (fun l => if l * (2 * h + 1) < k * (2 * g + 1) then 1 else 0) g + sm (fun l => if k * (2 * g + 1) < l * (2 * h + 1) then 1 else 0) g) h = sm (fun _ => g) h := by
    refine sm_congr fun k h1 h2 => ?_
    rw [← sm_add]
    have : sm (fun l => (if l * (2 * h + 1) < k * (2 * g + 1) then 1 else 0) + (if k * (2 * g + 1) < l * (2 * h + 1) then 1 else 0)) g = sm (fun _ => 1) g := by
      refine sm_congr fun l _ _ => ?_
      have := off_diagonal (l := l) hc h1 h2
      split <;> split <;> omega
    rw [this, sm_const, Nat.mul_one]
  rw [this, sm_const]

/-- reciprocity -/
theorem gc_swap {g h : Nat} (hc : Nat.Coprime (2 * g + 1) (2 * h + 1)) : (gc h (2 * g + 1) + gc g (2 * h + 1)) % 2 = (h * g) % 2 := by
  have a := gc_floor hc
  have b := gc_floor hc.symm
  have l := lattice hc
  omega

theorem gc_one (h : Nat) : gc h 1 = 0 := by
  unfold gc
  rw [← sm_zero h]
  refine sm_congr fun k h1 h2 => ?_
  unfold ng; rw [Nat.mul_one, Nat.mod_eq_of_lt (by omega), if_neg (by omega)]

/-- two -/
theorem gc_two (h : Nat) : gc h 2 = h - h / 2 := by
  have e : gc h 2 = sm (fun k => if h < 2 * k then 1 else 0) h := by
    unfold gc; refine sm_congr fun k h1 h2 => ?_
    unfold ng; rw [Nat.mod_eq_of_lt (by omega), Nat.mul_comm]
  have aux : ∀ n, n ≤ h → sm (fun k => if h < 2 * k then 1 else 0) n = n - h / 2 := by
    intro n
    induction n with
    | zero => intro _; simp [sm]
    | succ n ih => intro hn; simp only [sm]; rw [ih (by omega)]; split <;> omega
  rw [e, aux h (Nat.le_refl _)]

/-- the opposite -/
theorem gc_neg {h a : Nat} (hc : Nat.Coprime a (2 * h + 1)) (ha : a ≤ 2 * h + 1) : gc h (2 * h + 1 - a) + gc h a = h := by
  unfold gc
  rw [← sm_add]
  have : sm (fun k => ng h (k * (2 * h + 1 - a)) + ng h (k * a)) h = sm (fun _ => 1) h := by
    refine sm_congr fun k h1 h2 => ?_
    have hp := mod_pos hc h1 h2
    have l1 := Nat.mod_lt (k * a) (y := 2 * h + 1) (by omega)
    have l2 := Nat.mod_lt (k * (2 * h + 1 - a)) (y := 2 * h + 1) (by omega)
    have hs : (k * (2 * h + 1 - a) + k * a) % (2 * h + 1) = 0 := by
      rw [← Nat.mul_add, show 2 * h + 1 - a + a = 2 * h + 1 by omega]; exact Nat.mul_mod_left _ _
    rw [Nat.add_mod] at hs
    have : (k * (2 * h + 1 - a)) % (2 * h + 1) + (k * a) % (2 * h + 1) = 2 * h + 1 := by
      obtain ⟨q, hq⟩ := Nat.dvd_of_mod_eq_zero hs
      have : q = 1 := by
        rcases Nat.lt_trichotomy q 1 with a | a | a
        · have : q = 0 := by omega
          subst this; omega
        · exact a
        · have : (2 * h + 1) * 2 ≤ (2 * h + 1) * q := Nat.mul_le_mul_left _ (by omega)
          omega
      subst this; omega
    unfold ng
    split <;> split <;> omega
  rw [this, sm_const, Nat.mul_one]


/-! the order of the group -/
abbrev P : Nat := 2147483579
abbrev Q : Nat := 1073741789

/-- no divisor among d, d+1, .. d+n-1 -/
def nodiv (p : Nat) : Nat → Nat → Bool
  | 0, _ => true
  | n + 1, d => if p % d = 0 then false else nodiv p n (d + 1)

theorem nodiv_spec {p : Nat} : ∀ {n d : Nat}, nodiv p n d = true → ∀ e, d ≤ e → e < d + n → p % e ≠ 0
  | 0, d, _, e, h1, h2 => by omega
  | n + 1, d, h, e, h1, h2 => by
    unfold nodiv at h
    split at h
    · cases h
    · rename_i hd
      rcases Nat.eq_or_lt_of_le h1 with rfl | lt
      · exact hd
      · exact nodiv_spec h e lt (by omega)

theorem nodiv_of_root {p r : Nat} (hp : 1 < p) (hr : p < (r + 1) * (r + 1)) (h : nodiv p (r - 1) 2 = true) (e : Nat) (h1 : 2 ≤ e) (h2 : e < p) : ¬ e ∣ p := by
  intro hd
  obtain ⟨f, hf⟩ := hd
  have hs := nodiv_spec h
  rcases Nat.lt_or_ge e (2 + (r - 1)) with a | a
  · exact hs e h1 a (by rw [hf]; exact Nat.mul_mod_right _ _)
  · -- then f is small
    have hf2 : 2 ≤ f := by
      rcases Nat.lt_or_ge f 2 with b | b
      · have : f = 0 ∨ f = 1 := by omega
        rcases this with rfl | rfl <;> omega
      · exact b
    have hfr : f < r + 1 := by
      rcases Nat.lt_or_ge f (r + 1) with b | b
      · exact b
      · have : (r + 1) * (r + 1) ≤ e * f := Nat.mul_le_mul (by omega) b
        omega
    exact hs f hf2 (by omega) (by rw [hf]; exact Nat.mul_mod_left _ _)

theorem P_prime (e : Nat) (h1 : 2 ≤ e) (h2 : e < P) : ¬ e ∣ P :=
  nodiv_of_root (r := 46341) (by decide) (by decide) (by decide +kernel) e h1 h2
theorem Q_prime (e : Nat) (h1 : 2 ≤ e) (h2 : e < Q) : ¬ e ∣ Q :=
  nodiv_of_root (r := 32768) (by decide) (by decide) (by decide +kernel) e h1 h2

theorem coprime_of_prime {p k : Nat} (hp : ∀ e, 2 ≤ e → e < p → ¬ e ∣ p) (h1 : 1 ≤ k) (h2 : k < p) : Nat.Coprime k p := by
  have hd1 := Nat.gcd_dvd_left k p
  have hd2 := Nat.gcd_dvd_right k p
  have hle := Nat.le_of_dvd (by omega) hd1
  have hpos : 0 < Nat.gcd k p := Nat.gcd_pos_of_pos_left _ (by omega)
  rcases Nat.lt_or_ge (Nat.gcd k p) 2 with a | a
  · show Nat.gcd k p = 1; omega
  · exact absurd hd2 (hp _ a (by omega))

theorem coP {k : Nat} (h1 : 1 ≤ k) (h2 : k < P) : Nat.Coprime k P := coprime_of_prime P_prime h1 h2
theorem coQ {k : Nat} (h1 : 1 ≤ k) (h2 : k < Q) : Nat.Coprime k Q := coprime_of_prime Q_prime h1 h2

/-- products over 1..n -/
def pr (f : Nat → Nat) : Nat → Nat
  | 0 => 1
  | n + 1 => pr f n * f (n + 1)

def lp (f : Nat → Nat) : List Nat → Nat
  | [] => 1
  | x :: l => f x * lp f l

theorem lp_up (f : Nat → Nat) (n : Nat) : lp f (up n) = pr f n := by
  induction n with
  | zero => rfl
  | succ n ih => simp only [up, lp, pr, ih]; exact Nat.mul_comm _ _

theorem lp_map (f g : Nat → Nat) (l : List Nat) : lp f (l.map g) = lp (fun k => f (g k)) l := by
  induction l with
  | nil => rfl
  | cons x l ih => simp only [List.map, lp, ih]

theorem lp_perm (f : Nat → Nat) {l r : List Nat} (h : l.Perm r) : lp f l = lp f r := by
  induction h with
  | nil => rfl
  | cons x _ ih => simp only [lp, ih]
  | swap x y l => simp only [lp]; exact Nat.mul_left_comm _ _ _
  | trans _ _ a b => exact a.trans b

theorem pr_perm {f : Nat → Nat} {n : Nat} (g : Nat → Nat) (h1 : ∀ k, 1 ≤ k → k ≤ n → 1 ≤ f k ∧ f k ≤ n) (h2 : ∀ j k, 1 ≤ j → j ≤ n → 1 ≤ k → k ≤ n → f j = f k → j = k) :
    pr (fun k => g (f k)) n = pr g n := by
  rw [← lp_up, ← lp_up, ← lp_perm g (perm_up h1 h2), lp_map]

theorem pr_mul (f g : Nat → Nat) (n : Nat) : pr (fun k => f k * g k) n = pr f n * pr g n := by
  induction n with
  | zero => rfl
  | succ n ih => simp only [pr, ih]; ac_rfl

theorem pr_const (c n : Nat) : pr (fun _ => c) n = c ^ n := by
  induction n with
  | zero => rfl
  | succ n ih => simp only [pr, ih, Nat.pow_succ]

theorem pr_pow (c : Nat) (f : Nat → Nat) (n : Nat) : pr (fun k => c ^ f k) n = c ^ sm f n := by
  induction n with
  | zero => rfl
  | succ n ih => simp only [pr, sm, ih, Nat.pow_add]

theorem pr_mod {p : Nat} {f g : Nat → Nat} {n : Nat} (h : ∀ k, 1 ≤ k → k ≤ n → f k % p = g k % p) : pr f n % p = pr g n % p := by
  induction n with
  | zero => rfl
  | succ n ih =>
    simp only [pr]
    rw [Nat.mul_mod, ih (fun k a b => h k a (by omega)), h (n + 1) (by omega) (by omega), ← Nat.mul_mod]

theorem pr_coprime {p n : Nat} (h : ∀ k, 1 ≤ k → k ≤ n → Nat.Coprime k p) : Nat.Coprime (pr (fun k => k) n) p := by
  induction n with
  | zero => exact Nat.coprime_one_left p
  | succ n ih => simp only [pr]; exact Nat.Coprime.mul_left (ih (fun k a b => h k a (by omega))) (h _ (by omega) (by omega))

/-- a factor that is coprime to the modulus can be struck -/
theorem mod_cancel {p a b c : Nat} (hc : Nat.Coprime c p) (h : (c * a) % p = (c * b) % p) : a % p = b % p := by
  have aux : ∀ {a b : Nat}, a ≤ b → (c * a) % p = (c * b) % p → a % p = b % p := by
    intro a b hab h
    have hd : p ∣ c * (b - a) := by
      rw [Nat.mul_sub]; exact Nat.dvd_of_mod_eq_zero (Nat.sub_mod_eq_zero_of_mod_eq h.symm)
    have hd2 : p ∣ b - a := Nat.Coprime.dvd_of_dvd_mul_left hc.symm hd
    obtain ⟨q, hq⟩ := hd2
    have : b = a + p * q := by omega
    rw [this, Nat.add_mul_mod_self_left]
  rcases Nat.le_total a b with x | x
  · exact aux x h
  · exact (aux x h.symm).symm

theorem neg_sq {h : Nat} (hh : 1 ≤ h) : ((2 * h) * (2 * h)) % (2 * h + 1) = 1 := by
  have : (2 * h) * (2 * h) = 1 + (2 * h + 1) * (2 * h - 1) := by
    obtain ⟨j, rfl⟩ : ∃ j, h = j + 1 := ⟨h - 1, by omega⟩
    rw [show 2 * (j + 1) - 1 = 2 * j + 1 by omega]
    simp only [Nat.mul_add, Nat.add_mul]; omega
  rw [this, Nat.add_mul_mod_self_left, Nat.mod_eq_of_lt (by omega)]

theorem neg_pow {h : Nat} (hh : 1 ≤ h) (n : Nat) : ((2 * h) ^ n) % (2 * h + 1) = if n % 2 = 0 then 1 else 2 * h := by
  induction n with
  | zero => simp; omega
  | succ n ih =>
    rw [Nat.pow_succ, Nat.mul_mod, ih, Nat.mod_eq_of_lt (a := 2 * h) (by omega)]
    split
    · rw [if_neg (by omega), Nat.one_mul, Nat.mod_eq_of_lt (by omega)]
    · rw [if_pos (by omega)]; exact neg_sq hh

/-- Gauss's lemma -/
theorem gauss {h : Nat} (hh : 1 ≤ h) (hp : ∀ k, 1 ≤ k → k < 2 * h + 1 → Nat.Coprime k (2 * h + 1)) {x : Nat} (h1 : Nat.Coprime x (2 * h + 1)) :
    (x ^ h) % (2 * h + 1) = if gc h x % 2 = 0 then 1 else 2 * h := by
  rw [← neg_pow hh]
  refine mod_cancel (pr_coprime (n := h) (fun k a b => hp k a (by omega))) ?_
  have e1 : pr (fun k => k) h * x ^ h = pr (fun k => k * x) h := by rw [pr_mul, pr_const]
  have e2 : pr (fun k => k) h * (2 * h) ^ gc h x = pr (fun k => fd h (k * x) * (2 * h) ^ ng h (k * x)) h := by
    rw [pr_mul, pr_perm (f := fun k => fd h (k * x)) (fun k => k) (fun k a b => fd_range h1 a b) (fun j k a b c d e => fd_inj h1 a b c d e), pr_pow]; rfl
  rw [e1, e2]
  refine pr_mod fun k a b => ?_
  have hr := fd_range h1 a b
  have hl := Nat.mod_lt (k * x) (y := 2 * h + 1) (by omega)
  have hf := fd_ng h (k * x)
  rw [hf]
  split
  · rename_i hn
    rw [hn, Nat.pow_one]
    have : fd h (k * x) * (2 * h) = (2 * h + 1 - fd h (k * x)) + (2 * h + 1) * (fd h (k * x) - 1) := by
      generalize fd h (k * x) = f at *
      obtain ⟨j, rfl⟩ : ∃ j, f = j + 1 := ⟨f - 1, by omega⟩
      simp only [Nat.add_mul, Nat.add_sub_cancel]
      have : j * (2 * h) = 2 * h * j := Nat.mul_comm _ _
      omega
    rw [this, Nat.add_mul_mod_self_left, Nat.mod_eq_of_lt (by omega)]
  · rename_i hn
    have : ng h (k * x) = 0 := by
      have : ng h (k * x) = 0 ∨ ng h (k * x) = 1 := by unfold ng; split <;> simp
      omega
    rw [this, Nat.pow_zero, Nat.mul_one, Nat.mod_eq_of_lt (by omega)]

/-! the elements -/
/-- is x an element: by the count -/
def isEl (x : Nat) : Bool := decide (1 ≤ x ∧ x < P ∧ gc Q x % 2 = 0)

theorem PQ : P = 2 * Q + 1 := rfl

theorem isEl_pow {x : Nat} (h1 : 1 ≤ x) (h2 : x < P) : (x ^ Q) % P = if gc Q x % 2 = 0 then 1 else P - 1 :=
  gauss (h := Q) (by decide) (fun _ a b => coP a b) (coP h1 h2)

theorem isEl_iff {x : Nat} : isEl x = true ↔ 1 ≤ x ∧ x < P ∧ (x ^ Q) % P = 1 := by
  unfold isEl
  rw [decide_eq_true_iff]
  constructor
  · rintro ⟨a, b, c⟩; exact ⟨a, b, by rw [isEl_pow a b, if_pos c]⟩
  · rintro ⟨a, b, c⟩
    refine ⟨a, b, ?_⟩
    rw [isEl_pow a b] at c
    split at c
    · assumption
    · exact absurd c (by decide)

/-- of x and P - x exactly one is an element -/
theorem isEl_neg {x : Nat} (h1 : 1 ≤ x) (h2 : x < P) : isEl (P - x) = !isEl x := by
  have h := gc_neg (h := Q) (a := x) (coP h1 h2) (by rw [← PQ]; omega)
  rw [← PQ] at h
  have hq : Q % 2 = 1 := by decide
  unfold isEl
  by_cases c : gc Q x % 2 = 0
  · have : ¬ gc Q (P - x) % 2 = 0 := by omega
    simp [c, this]; omega
  · have : gc Q (P - x) % 2 = 0 := by omega
    simp [c, this]; omega

theorem isEl_mul {a b : Nat} (ha : isEl a = true) (hb : isEl b = true) : isEl (a * b % P) = true := by
  rw [isEl_iff] at *
  obtain ⟨a1, a2, a3⟩ := ha
  obtain ⟨b1, b2, b3⟩ := hb
  have hc : Nat.Coprime (a * b) P := Nat.Coprime.mul_left (coP a1 a2) (coP b1 b2)
  refine ⟨?_, Nat.mod_lt _ (by decide), ?_⟩
  · rcases Nat.eq_zero_or_pos (a * b % P) with e | e
    · have := Nat.Coprime.eq_one_of_dvd hc.symm (Nat.dvd_of_mod_eq_zero e)
      exact absurd this (by decide)
    · exact e
  · rw [← Nat.pow_mod, Nat.mul_pow, Nat.mul_mod, a3, b3]; decide

/-! the loop that tells elements apart -/
/-- what the loop's flag holds when it has come from x0 modulo P to x modulo 2h+1 -/
def flag (x0 h x : Nat) : Bool := decide ((gc Q x0 + gc h x) % 2 = 0)

theorem flag_start (x0 : Nat) : flag x0 Q x0 = true := by unfold flag; rw [decide_eq_true_iff]; omega

theorem flag_end {x0 h : Nat} (h1 : 1 ≤ x0) (h2 : x0 < P) : flag x0 h 1 = isEl x0 := by
  unfold flag isEl; rw [gc_one, Nat.add_zero, Bool.eq_iff_iff, decide_eq_true_iff, decide_eq_true_iff]
  exact ⟨fun h => ⟨h1, h2, h⟩, fun h => h.2.2⟩

theorem co_half {h y : Nat} (hc : Nat.Coprime (2 * y) (2 * h + 1)) : Nat.Coprime y (2 * h + 1) := Nat.Coprime.coprime_mul_left hc

theorem flag_even {x0 h y : Nat} (hc : Nat.Coprime (2 * y) (2 * h + 1)) :
    flag x0 h y = if (2 * h + 1) % 8 = 3 ∨ (2 * h + 1) % 8 = 5 then !flag x0 h (2 * y) else flag x0 h (2 * y) := by
  have h2 : Nat.Coprime 2 (2 * h + 1) := Nat.Coprime.coprime_mul_right hc
  have hm := gc_mul h2 (co_half hc)
  have ht := gc_two h
  unfold flag
  split
  · rw [Bool.eq_iff_iff]; simp; omega
  · rw [Bool.eq_iff_iff]; simp; omega

theorem mul_odd (a b : Nat) : (a * b) % 2 = if a % 2 = 1 ∧ b % 2 = 1 then 1 else 0 := by
  rw [Nat.mul_mod]
  have : a % 2 = 0 ∨ a % 2 = 1 := by omega
  have : b % 2 = 0 ∨ b % 2 = 1 := by omega
  rcases ‹a % 2 = 0 ∨ a % 2 = 1› with e | e <;> rcases ‹b % 2 = 0 ∨ b % 2 = 1› with f | f <;> simp [e, f]

theorem flag_odd {x0 h g : Nat} (hc : Nat.Coprime (2 * g + 1) (2 * h + 1)) :
    flag x0 g ((2 * h + 1) % (2 * g + 1)) = if (2 * g + 1) % 4 = 3 ∧ (2 * h + 1) % 4 = 3 then !flag x0 h (2 * g + 1) else flag x0 h (2 * g + 1) := by
  have hs := gc_swap hc
  rw [mul_odd] at hs
  unfold flag
  rw [gc_mod]
  split
  · rw [if_pos (by omega)] at hs
    rw [Bool.eq_iff_iff]; simp; omega
  · rw [if_neg (by omega)] at hs
    rw [Bool.eq_iff_iff]; simp; omega

theorem co_next {x m : Nat} (hc : Nat.Coprime x m) (hx : 1 < x) : Nat.Coprime (m % x) x ∧ 1 ≤ m % x := by
  have h : Nat.Coprime (m % x) x := by
    show Nat.gcd (m % x) x = 1
    rw [← Nat.gcd_rec]; exact hc
  refine ⟨h, ?_⟩
  rcases Nat.eq_zero_or_pos (m % x) with e | e
  · rw [e] at h; have : Nat.gcd 0 x = 1 := h; rw [Nat.gcd_zero_left] at this; omega
  · exact e

end Go.Proofs.YtpjobllfiimdkaaGreatDoor.M
