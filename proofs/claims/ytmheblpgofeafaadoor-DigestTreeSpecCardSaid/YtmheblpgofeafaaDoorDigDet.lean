/- What a list's digest is, is one. -/
import Derived.Test.YtmheblpgofeafaaDoorDigTree
namespace Go.Proofs.YtmheblpgofeafaaDoor
open Go.RowKit
set_option linter.unusedVariables false

theorem isSha_det {bs a b : List Int} (h : IsSha bs a) (k : IsSha bs b) : a = b := h.eq.symm.trans k.eq
theorem isTag_det {t bs a b : List Int} (h : IsTag t bs a) (k : IsTag t bs b) : a = b := by
  obtain ⟨x, h1, h2⟩ := h
  obtain ⟨y, k1, k2⟩ := k
  obtain rfl := isSha_det h1 k1
  exact isSha_det h2 k2
theorem isTree_det {n : Nat} {fs a b : List Int} (h : IsTree n fs a) (k : IsTree n fs b) : a = b := by
  induction h generalizing b with
  | zero ds h => cases k with
    | zero _ k => exact isTag_det h k
    | node => omega
  | one fs ds hl h => cases k with
    | one _ _ _ k => exact isTag_det h k
    | node => omega
  | node n k fs xs ys ds h1 hk hl hx hy h ihx ihy => cases k with
    | zero => omega
    | one => omega
    | node _ k2 _ xs2 ys2 _ _ hk2 _ hx2 hy2 h2 =>
      obtain rfl : k = k2 := hk.trans hk2.symm
      obtain rfl := ihx hx2
      obtain rfl := ihy hy2
      exact isTag_det h h2
theorem spN_uniq {n k j : Nat} (h : 1 < n) (hk : k = 2 ^ j) (h1 : k < n) (h2 : n ≤ 2 * k) : k = spN n := by
  have a := spN_lt h
  have b := spN_le h
  obtain ⟨i, hi⟩ : ∃ i, spN n = 2 ^ i := ⟨_, rfl⟩
  rw [hi] at a b ⊢
  rw [hk] at h1 h2 ⊢
  have c1 : 2 ^ j < 2 ^ (i + 1) := by rw [Nat.pow_succ]; omega
  have c2 : 2 ^ i < 2 ^ (j + 1) := by rw [Nat.pow_succ]; omega
  have d1 := (Nat.pow_lt_pow_iff_right (by omega : 1 < 2)).1 c1
  have d2 := (Nat.pow_lt_pow_iff_right (by omega : 1 < 2)).1 c2
  rw [show j = i by omega]
theorem IsTree.node_inv {n : Nat} {fs ds : List Int} (h : IsTree n fs ds) (hn : 1 < n) : ∃ xs ys, IsTree (spN n) (fs.take (32 * spN n)) xs ∧ IsTree (n - spN n) (fs.drop (32 * spN n)) ys ∧ IsTag (strL sNode) (xs ++ ys) ds := by
  cases h with
  | zero => omega
  | one => omega
  | node _ k _ xs ys _ _ hk _ hx hy h => subst hk; exact ⟨xs, ys, hx, hy, h⟩
theorem IsTree.zero_inv {fs ds : List Int} (h : IsTree 0 fs ds) : IsTag (strL sEmpty) [] ds := by
  cases h with
  | zero _ h => exact h
  | node _ _ _ _ _ _ h => omega
theorem IsTree.one_inv {fs ds : List Int} (h : IsTree 1 fs ds) : IsTag (strL sLeaf) fs ds := by
  cases h with
  | one _ _ _ h => exact h
  | node _ _ _ _ _ _ h => omega
end Go.Proofs.YtmheblpgofeafaaDoor
