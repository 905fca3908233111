/- Chains in plain numbers: links, the texts of which heads are digests, which lists are chains. -/
import Derived.Test.YtllcgehfmkmcdaaDoorCodZ
import Derived.Test.YtllcgehfmkmcdaaDoorLstZ
namespace Go.Proofs.YtllcgehfmkmcdaaDoor
open Go.RowKit
set_option linter.unusedVariables false
set_option linter.unusedSimpArgs false

/-- a link; where its data lies: p, m, c -/
structure Lk where
  node : Int
  no : Int
  prev : List Int
  p : Option Addr
  m : Nat
  c : Nat
  bs : List Int
abbrev Lk.d (x : Lk) : Value := .slice x.p x.m x.c
def lk0 : Lk := ⟨0, 0, List.replicate 32 0, none, 0, 0, []⟩
instance : Inhabited Lk := ⟨lk0⟩
/-- what a link says -/
def Lk.same (x y : Lk) : Prop := x.node = y.node ∧ x.no = y.no ∧ x.prev = y.prev ∧ x.bs = y.bs
structure IsTg (tag bs ds : List Int) : Prop where
  ex : ∃ ts, IsSha tag ts ∧ IsSha (ts ++ bs) ds
theorem isTg (tag bs : List Int) : ∃ ds, IsTg tag bs ds := ⟨_, ⟨_, ⟨rfl⟩, ⟨rfl⟩⟩⟩
theorem IsTg.det {tag bs a b : List Int} (h : IsTg tag bs a) (k : IsTg tag bs b) : a = b := by
  obtain ⟨t, h1, h2⟩ := h.ex
  obtain ⟨u, k1, k2⟩ := k.ex
  obtain rfl : t = u := h1.eq.symm.trans k1.eq
  exact h2.eq.symm.trans k2.eq
theorem IsTg.len {tag bs a : List Int} (h : IsTg tag bs a) : a.length = 32 := by
  obtain ⟨t, h1, h2⟩ := h.ex
  rw [← h2.eq]; exact sha_len _
theorem IsTg.rng {tag bs a : List Int} (h : IsTg tag bs a) : ∀ z ∈ a, 0 ≤ z ∧ z ≤ 255 := by
  obtain ⟨t, h1, h2⟩ := h.ex
  rw [← h2.eq]; exact sha_rng _
def tNone : List Int := [110, 111, 110, 101]
def tLink : List Int := [108, 105, 110, 107]
/-- the text of a link -/
def lkA (x : Lk) : List Atom := [.int x.node, .int x.no, .text x.prev, .text x.bs]
def lkT (x : Lk) : List Int := encL (lkA x)
def hdTag (ls : List Lk) : List Int := if ls = [] then tNone else tLink
def hdTxt (ls : List Lk) : List Int := match ls.getLast? with
  | none => []
  | some x => lkT x
structure IsHead (ls : List Lk) (ds : List Int) : Prop where
  tg : IsTg (hdTag ls) (hdTxt ls) ds
theorem isHead (ls : List Lk) : ∃ ds, IsHead ls ds := by
  obtain ⟨d, h⟩ := isTg (hdTag ls) (hdTxt ls)
  exact ⟨d, ⟨h⟩⟩
noncomputable def headOf (ls : List Lk) : List Int := (isHead ls).choose
theorem headOf_is (ls : List Lk) : IsHead ls (headOf ls) := (isHead ls).choose_spec
theorem IsHead.det {ls : List Lk} {a b : List Int} (h : IsHead ls a) (k : IsHead ls b) : a = b := h.tg.det k.tg
theorem IsHead.of {ls : List Lk} {a : List Int} (h : IsHead ls a) : headOf ls = a := (headOf_is ls).det h
theorem headOf_len (ls : List Lk) : (headOf ls).length = 32 := (headOf_is ls).tg.len
theorem headOf_rng (ls : List Lk) : ∀ z ∈ headOf ls, 0 ≤ z ∧ z ≤ 255 := (headOf_is ls).tg.rng
theorem hd_nil : hdTag [] = tNone ∧ hdTxt [] = [] := ⟨rfl, rfl⟩
theorem hd_last {ls : List Lk} {n : Nat} (h : ls.length = n + 1) : hdTag ls = tLink ∧ hdTxt ls = lkT (ls.getD n lk0) := by
  have hne : ls ≠ [] := by intro e; subst e; simp at h
  refine ⟨by unfold hdTag; rw [if_neg hne], ?_⟩
  have e : ls.getLast? = some (ls.getD n lk0) := by
    rw [List.getLast?_eq_getElem?, h, Nat.add_sub_cancel, List.getElem?_eq_getElem (by omega)]
    simp [List.getD, (by omega : n < ls.length)]
  unfold hdTxt
  rw [e]
/-- the fields of the link at a place are in form -/
def fldB (ls : List Lk) (i : Nat) : Bool := decide (0 ≤ (ls.getD i lk0).node) && decide ((ls.getD i lk0).node < 24) && ((ls.getD i lk0).node == (ls.getD 0 lk0).node) && ((ls.getD i lk0).no == (i : Int)) && decide ((ls.getD i lk0).bs.length ≤ 65536)
/-- its link to what is before -/
noncomputable def prvB (ls : List Lk) (i : Nat) : Bool := (ls.getD i lk0).prev == headOf (ls.take i)
noncomputable def linB (ls : List Lk) (i : Nat) : Bool := fldB ls i && prvB ls i
def AllB (p : Nat → Bool) (n : Nat) : Prop := ∀ i, i < n → p i = true
/-- what Check says of a list of at most 1024 links -/
def IsChk (ls : List Lk) (e : Int) : Prop := (AllB (linB ls) ls.length ∧ e = 0) ∨ ((∃ i, i < ls.length ∧ linB ls i = false) ∧ e = 80)
theorem isChk (ls : List Lk) : ∃ e, IsChk ls e := by
  by_cases h : AllB (linB ls) ls.length
  · exact ⟨0, .inl ⟨h, rfl⟩⟩
  · refine ⟨80, .inr ⟨?_, rfl⟩⟩
    simp only [AllB, Classical.not_forall] at h
    obtain ⟨i, hi, hb⟩ := h
    exact ⟨i, hi, by simpa using hb⟩
theorem IsChk.two {ls : List Lk} {e : Int} (h : IsChk ls e) : e = 0 ∨ e = 80 := by
  rcases h with ⟨_, rfl⟩ | ⟨_, rfl⟩
  · exact .inl rfl
  · exact .inr rfl
theorem IsChk.det {ls : List Lk} {a b : Int} (h : IsChk ls a) (k : IsChk ls b) : a = b := by
  rcases h with ⟨h, rfl⟩ | ⟨⟨i, hi, hb⟩, rfl⟩ <;> rcases k with ⟨k, rfl⟩ | ⟨⟨j, hj, kb⟩, rfl⟩
  · rfl
  · rw [h j hj] at kb; cases kb
  · rw [k i hi] at hb; cases hb
  · rfl
end Go.Proofs.YtllcgehfmkmcdaaDoor
