/- Signatures, blind ones too, in plain numbers. -/
import Derived.Test.YtpjobllfiimdkaaGreatDoorCodZ
import Derived.Test.YtpjobllfiimdkaaGreatDoorDigHash
import Derived.Test.YtpjobllfiimdkaaGreatDoorGroupFac
import Derived.Test.YtpjobllfiimdkaaGreatDoorQInv
namespace Go.Proofs.YtpjobllfiimdkaaGreatDoor
set_option linter.unusedVariables false

/-- a power, told by a structure: an equation on powers of a numeral would be reckoned out by the walk -/
structure IsPw (a n r : Int) : Prop where
  eq : powZ a n = r
structure IsPe (a e : Int) : Prop where
  eq : powE a = e
structure IsMl (a b r : Int) : Prop where
  eq : mulZ a b = r
theorem isPw (a n : Int) : ∃ r, IsPw a n r := ⟨_, ⟨rfl⟩⟩
theorem isMl (a b : Int) : ∃ r, IsMl a b r := ⟨_, ⟨rfl⟩⟩
/-- a hash of bytes under a tag -/
def IsHash (t bs : List Int) (h : Int) : Prop := ∃ ts ds, IsSha t ts ∧ IsSha (ts ++ bs) ds ∧ hashZ ds = h
theorem isHash (t bs : List Int) : ∃ h, IsHash t bs h := ⟨_, _, _, ⟨rfl⟩, ⟨rfl⟩, rfl⟩
theorem IsHash.det {t bs : List Int} {a b : Int} (h : IsHash t bs a) (k : IsHash t bs b) : a = b := by
  obtain ⟨x, y, h1, h2, rfl⟩ := h
  obtain ⟨x', y', k1, k2, rfl⟩ := k
  obtain rfl := h1.eq.symm.trans k1.eq
  obtain rfl := h2.eq.symm.trans k2.eq
  rfl
theorem IsHash.rng {t bs : List Int} {a : Int} (h : IsHash t bs a) : 0 ≤ a ∧ a < 1073741789 := by
  obtain ⟨_, ds, _, _, rfl⟩ := h
  unfold hashZ
  omega
def tSign : List Int := [115, 105, 103, 110]
def tNonce : List Int := [110, 111, 110, 99, 101]
def IsCh (p k : Int) (bs : List Int) (c : Int) : Prop := IsHash tSign (encL [.int p, .int k, .text bs]) c
theorem isCh (p k : Int) (bs : List Int) : ∃ c, IsCh p k bs c := isHash _ _
theorem IsCh.det {p k : Int} {bs : List Int} {a b : Int} (h : IsCh p k bs a) (q : IsCh p k bs b) : a = b := IsHash.det h q
theorem IsCh.rng {p k : Int} {bs : List Int} {a : Int} (h : IsCh p k bs a) : 0 ≤ a ∧ a < 1073741789 := IsHash.rng h
def IsNonce (x : Int) (bs : List Int) (k : Int) : Prop := ∃ h, IsHash tNonce (encL [.int x, .text bs]) h ∧ k = max h 1
theorem isNonce (x : Int) (bs : List Int) : ∃ k, IsNonce x bs k := by obtain ⟨h, hh⟩ := isHash tNonce (encL [.int x, .text bs]); exact ⟨_, h, hh, rfl⟩
theorem IsNonce.det {x : Int} {bs : List Int} {a b : Int} (h : IsNonce x bs a) (k : IsNonce x bs b) : a = b := by
  obtain ⟨p, h1, rfl⟩ := h
  obtain ⟨q, k1, rfl⟩ := k
  rw [h1.det k1]
theorem IsNonce.rng {x : Int} {bs : List Int} {a : Int} (h : IsNonce x bs a) : 1 ≤ a ∧ a < 1073741789 := by
  obtain ⟨p, h1, rfl⟩ := h
  have := h1.rng
  omega
def ptZ (key e s : Int) : Int := mulZ (powZ 4 s) (powZ key (-e))
def inQ (n : Int) : Bool := decide (0 ≤ n) && decide (n < 1073741789)
theorem inQ_iff {n : Int} : inQ n = true ↔ 0 ≤ n ∧ n < 1073741789 := by unfold inQ; simp
def IsVer (key : Int) (bs : List Int) (e s : Int) (v : Bool) : Prop := ∃ c, IsCh (ptZ key e s) key bs c ∧ v = (elB key && inQ e && inQ s && decide (e = c))
theorem isVer (key : Int) (bs : List Int) (e s : Int) : ∃ v, IsVer key bs e s v := by obtain ⟨c, hc⟩ := isCh (ptZ key e s) key bs; exact ⟨_, c, hc, rfl⟩
theorem IsVer.det {key : Int} {bs : List Int} {e s : Int} {a b : Bool} (h : IsVer key bs e s a) (k : IsVer key bs e s b) : a = b := by
  obtain ⟨p, h1, rfl⟩ := h
  obtain ⟨q, k1, rfl⟩ := k
  rw [h1.det k1]
theorem IsVer.parts {key : Int} {bs : List Int} {e s : Int} (h : IsVer key bs e s true) : elB key = true ∧ (0 ≤ e ∧ e < 1073741789) ∧ (0 ≤ s ∧ s < 1073741789) ∧ IsCh (ptZ key e s) key bs e := by
  obtain ⟨c, hc, hv⟩ := h
  have hv := hv.symm
  simp only [Bool.and_eq_true, decide_eq_true_eq] at hv
  obtain ⟨⟨⟨h1, h2⟩, h3⟩, rfl⟩ := hv
  exact ⟨h1, inQ_iff.1 h2, inQ_iff.1 h3, hc⟩
theorem IsVer.mk {key : Int} {bs : List Int} {e s : Int} (h1 : elB key = true) (h2 : 0 ≤ e ∧ e < 1073741789) (h3 : 0 ≤ s ∧ s < 1073741789) (hc : IsCh (ptZ key e s) key bs e) : IsVer key bs e s true :=
  ⟨e, hc, by rw [h1, inQ_iff.2 h2, inQ_iff.2 h3]; simp⟩
theorem IsVer.no {key : Int} {bs : List Int} {e s : Int} (h : (elB key && inQ e && inQ s) = false) : IsVer key bs e s false := by
  obtain ⟨c, hc⟩ := isCh (ptZ key e s) key bs
  exact ⟨c, hc, by rw [h]; rfl⟩
def IsSig (x : Int) (bs : List Int) (e s : Int) : Prop := ∃ k, IsNonce x bs k ∧ IsCh (powZ 4 k) (powZ 4 x) bs e ∧ s = (k + e * x % 1073741789) % 1073741789
theorem isSig (x : Int) (bs : List Int) : ∃ e s, IsSig x bs e s := by
  obtain ⟨k, hk⟩ := isNonce x bs
  obtain ⟨e, he⟩ := isCh (powZ 4 k) (powZ 4 x) bs
  exact ⟨e, _, k, hk, he, rfl⟩
theorem IsSig.det {x : Int} {bs : List Int} {e s e' s' : Int} (h : IsSig x bs e s) (q : IsSig x bs e' s') : e = e' ∧ s = s' := by
  obtain ⟨k, h1, h2, rfl⟩ := h
  obtain ⟨k', q1, q2, rfl⟩ := q
  obtain rfl := h1.det q1
  obtain rfl := h2.det q2
  exact ⟨rfl, rfl⟩
theorem pt_right (k e x s : Int) (hs : s % 1073741789 = (k + e * x) % 1073741789) : ptZ (powZ 4 x) e s = powZ 4 k := by
  unfold ptZ
  rw [powZ_mul elB_4, powZ_add elB_4]
  apply powZ_congr
  have h : x * -e = - (e * x) := by rw [Int.mul_neg, Int.mul_comm]
  rw [h]
  generalize e * x = y at hs
  omega
theorem IsSig.rng {x : Int} {bs : List Int} {e s : Int} (h : IsSig x bs e s) : (0 ≤ e ∧ e < 1073741789) ∧ (0 ≤ s ∧ s < 1073741789) := by
  obtain ⟨k, h1, h2, rfl⟩ := h
  exact ⟨h2.rng, by omega⟩
theorem IsSig.ver {x : Int} {bs : List Int} {e s : Int} (h : IsSig x bs e s) : IsVer (powZ 4 x) bs e s true := by
  have hr := h.rng
  obtain ⟨k, h1, h2, h3⟩ := h
  refine .mk (powZ_el elB_4 x) hr.1 hr.2 ?_
  rw [pt_right k e x s (by subst h3; generalize e * x = y; omega)]
  exact h2
theorem powZ_inj_base {a b : Int} (ha : elB a = true) (hb : elB b = true) {n m : Int} (h : powZ a n = b) (hm : (n * m) % 1073741789 = 1) : powZ b m = a := by
  rw [← h, powZ_mul ha, powZ_congr a (show (n * m) % 1073741789 = 1 % 1073741789 by omega), powZ_one ha]
/-- two signatures with one point give the secret -/
theorem twice {key : Int} {e s f t : Int} (hk : elB key = true) (h : ptZ key e s = ptZ key f t) (hd : (e - f) % 1073741789 ≠ 0) : powZ 4 (quoQ (s - t) (e - f)) = key := by
  unfold ptZ at h
  have h1 : mulZ (mulZ (powZ 4 s) (powZ key (-e))) (mulZ (powZ 4 (-t)) (powZ key e)) = mulZ (mulZ (powZ 4 t) (powZ key (-f))) (mulZ (powZ 4 (-t)) (powZ key e)) := by rw [h]
  have ex : ∀ a b c d : Int, mulZ (mulZ (powZ 4 a) (powZ key b)) (mulZ (powZ 4 c) (powZ key d)) = mulZ (powZ 4 (a + c)) (powZ key (b + d)) := by
    intro a b c d
    have A := powZ_el elB_4 a; have B := powZ_el hk b; have C := powZ_el elB_4 c; have D := powZ_el hk d
    rw [mulZ_assoc A B (mulZ_el C D), ← mulZ_assoc B C D, mulZ_comm B C, mulZ_assoc C B D, powZ_add hk, ← mulZ_assoc A C (powZ_el hk _), powZ_add elB_4]
  rw [ex, ex] at h1
  have e1 : powZ key (-e + e) = 1 := by rw [show -e + e = 0 by omega, powZ_zero hk]
  have e2 : powZ 4 (t + -t) = 1 := by rw [show t + -t = 0 by omega, powZ_zero elB_4]
  rw [e1, e2, mulZ_one_r (powZ_el elB_4 _), mulZ_one (powZ_el hk _)] at h1
  have h2 : powZ 4 (s - t) = powZ key (e - f) := by
    rw [show s - t = s + -t by omega, show e - f = -f + e by omega]; exact h1
  have hq := quoQ_mul (a := s - t) hd
  -- key to the power of (e - f) * i is key
  obtain ⟨i, hi⟩ : ∃ i : Int, ((e - f) * i) % 1073741789 = 1 ∧ (quoQ (s - t) (e - f)) % 1073741789 = ((s - t) * i) % 1073741789 := by
    have h3 := quoQ_mul (a := 1) hd
    refine ⟨quoQ 1 (e - f), by rw [Int.mul_comm]; exact h3, ?_⟩
    unfold quoQ modQ
    generalize (pwQ ((e - f) % 1073741789).toNat 1073741787 : Int) = y
    show ((s - t) % 1073741789 * y % 1073741789) % 1073741789 = ((s - t) * ((1 % 1073741789) * y % 1073741789)) % 1073741789
    rw [show (1 : Int) % 1073741789 = 1 from rfl, Int.one_mul, Int.emod_emod, Int.mul_emod ((s - t) % 1073741789), Int.emod_emod, ← Int.mul_emod, Int.mul_emod (s - t) (y % 1073741789), Int.emod_emod, ← Int.mul_emod]
  rw [powZ_congr 4 hi.2, ← powZ_mul elB_4, h2, powZ_mul hk, powZ_congr key (show ((e - f) * i) % 1073741789 = 1 % 1073741789 by rw [hi.1]; rfl), powZ_one hk]

/-! blind signatures -/
def bpZ (key r u v : Int) : Int := mulZ (mulZ r (powZ 4 u)) (powZ key v)
theorem tr_point {key r c s h u v S : Int} (hk : elB key = true) (hr : elB r = true) (ht : powZ 4 s = mulZ r (powZ key c)) (hc : c % 1073741789 = (h + v) % 1073741789) (hS : S % 1073741789 = (s + u) % 1073741789) : ptZ key h S = bpZ key r u v := by
  unfold ptZ bpZ
  have A := powZ_el elB_4 u; have C := powZ_el hk c; have D := powZ_el hk (-h)
  rw [powZ_congr 4 hS, ← powZ_add elB_4, ht, mulZ_assoc (mulZ_el hr C) A D, mulZ_assoc hr C (mulZ_el A D), mulZ_comm A D, ← mulZ_assoc C D A, powZ_add hk, mulZ_comm (powZ_el hk _) A, ← mulZ_assoc hr A (powZ_el hk _), powZ_congr key (m := c + -h) (n := v) (by omega)]
theorem tr_right {x n c s : Int} (hs : s % 1073741789 = (n + c * x) % 1073741789) : powZ 4 s = mulZ (powZ 4 n) (powZ (powZ 4 x) c) := by
  rw [powZ_mul elB_4, powZ_add elB_4]
  apply powZ_congr
  rw [hs, Int.mul_comm]
theorem bpZ_congr (key r : Int) {u u' v v' : Int} (hu : u % 1073741789 = u' % 1073741789) (hv : v % 1073741789 = v' % 1073741789) : bpZ key r u v = bpZ key r u' v' := by
  unfold bpZ
  rw [powZ_congr 4 hu, powZ_congr key hv]
theorem bpZ_el {key r u v : Int} (hk : elB key = true) (hr : elB r = true) : elB (bpZ key r u v) = true := mulZ_el (mulZ_el hr (powZ_el elB_4 u)) (powZ_el hk v)
theorem ptZ_el {key e s : Int} (hk : elB key = true) : elB (ptZ key e s) = true := mulZ_el (powZ_el elB_4 s) (powZ_el hk (-e))
end Go.Proofs.YtpjobllfiimdkaaGreatDoor
