/- A path leads to the digest of the list; and it is short. -/
import Derived.Test.YtmheblpgofeafaaDoorDigPath
namespace Go.Proofs.YtmheblpgofeafaaDoor
open Go.RowKit
set_option linter.unusedVariables false

theorem climb_of_path {at' n c : Nat} {fs ps : List Int} (h : IsPath at' n fs c ps) : ∀ ds, IsTree n fs ds → fs.length = 32 * n → IsClimb at' n c ps ((fs.drop (32 * at')).take 32) ds := by
  induction h with
  | done fs =>
    intro ds ht hl
    have e : (fs.drop (32 * 0)).take 32 = fs := by rw [Nat.mul_zero, List.drop_zero, List.take_of_length_le]; omega
    rw [e]
    exact .one 0 fs ds ht.one_inv
  | left at' n k c fs ps ts h1 hk hak hp ht ih =>
    intro ds hds hl
    obtain ⟨xs, ys, hx, hy, htag⟩ := hds.node_inv h1
    rw [← hk] at hx hy
    obtain rfl := isTree_det ht hy
    have k1 : k < n := by rw [hk]; exact spN_lt h1
    have hi := ih xs hx (by rw [List.length_take]; omega)
    have e : ((fs.take (32 * k)).drop (32 * at')).take 32 = (fs.drop (32 * at')).take 32 := by
      rw [List.drop_take, List.take_take, Nat.min_eq_left (by omega)]
    rw [e] at hi
    have hpl := hp.len
    refine .left at' n k c (ps ++ ts) _ xs ds h1 hk hak (by rw [List.length_append, hpl, ht.len]; omega) ?_ ?_
    · rw [← hpl, List.take_left]; exact hi
    · rw [← hpl, List.drop_left]; exact htag
  | right at' n k c fs ps ts h1 hk hak han hp ht ih =>
    intro ds hds hl
    obtain ⟨xs, ys, hx, hy, htag⟩ := hds.node_inv h1
    rw [← hk] at hx hy
    obtain rfl := isTree_det ht hx
    have k1 : k < n := by rw [hk]; exact spN_lt h1
    have hi := ih ys hy (by rw [List.length_drop]; omega)
    have e : ((fs.drop (32 * k)).drop (32 * (at' - k))).take 32 = (fs.drop (32 * at')).take 32 := by
      rw [List.drop_drop]
      congr 2
      omega
    rw [e] at hi
    have hpl := hp.len
    refine .right at' n k c (ps ++ ts) _ ys ds h1 hk hak (by rw [List.length_append, hpl, ht.len]; omega) ?_ ?_
    · rw [← hpl, List.take_left]; exact hi
    · rw [← hpl, List.drop_left]; exact htag
theorem spN_half {n m : Nat} (h : 1 < n) (hm : n ≤ 2 ^ (m + 1)) : spN n ≤ 2 ^ m := by
  have a := spN_lt h
  obtain ⟨i, hi⟩ : ∃ i, spN n = 2 ^ i := ⟨_, rfl⟩
  rw [hi] at a ⊢
  have := (Nat.pow_lt_pow_iff_right (by omega : 1 < 2)).1 (Nat.lt_of_lt_of_le a hm)
  exact Nat.pow_le_pow_right (by omega) (by omega)
theorem IsSteps.short {at' n c : Nat} (h : IsSteps at' n c) : ∀ m, n ≤ 2 ^ m → c ≤ m := by
  induction h with
  | done => intro m _; omega
  | left at' n k c h1 hk hak hs ih =>
    intro m hm
    cases m with
    | zero => simp at hm; omega
    | succ m => have := ih m (by rw [hk]; exact spN_half h1 hm); omega
  | right at' n k c h1 hk hak hs ih =>
    intro m hm
    cases m with
    | zero => simp at hm; omega
    | succ m =>
      have a := spN_half h1 hm
      have b := spN_le h1
      have := ih m (by rw [hk]; omega)
      omega
end Go.Proofs.YtmheblpgofeafaaDoor
