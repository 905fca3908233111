/- The encoding of values, in plain numbers. -/
import Derived.Test.YthhlpkppcbillaaGreatDoorLawKit
namespace Go.Proofs.YthhlpkppcbillaaGreatDoor
set_option linter.unusedVariables false

/-- the bytes of a number: seven bits each, the lowest first -/
def numL (u : Nat) : List Int := if u < 128 then [(u : Int)] else ((u % 128 + 128 : Nat) : Int) :: numL (u / 128)
termination_by u
decreasing_by omega
theorem numL_lt {u : Nat} (h : u < 128) : numL u = [(u : Int)] := by rw [numL, if_pos h]
theorem numL_ge {u : Nat} (h : ¬ u < 128) : numL u = ((u % 128 + 128 : Nat) : Int) :: numL (u / 128) := by rw [numL, if_neg h]
theorem numL_rng (u : Nat) : ∀ z ∈ numL u, 0 ≤ z ∧ z ≤ 255 := by
  induction u using Nat.strongRecOn with
  | _ u ih =>
    by_cases h : u < 128
    · rw [numL_lt h]
      intro z hz
      simp at hz
      omega
    · rw [numL_ge h]
      intro z hz
      rcases List.mem_cons.1 hz with rfl | hz
      · omega
      · exact ih (u / 128) (by omega) z hz
theorem numL_pos (u : Nat) : 0 < (numL u).length := by
  by_cases h : u < 128
  · rw [numL_lt h]; simp
  · rw [numL_ge h]; simp
theorem numL_len (u : Nat) : ∀ k, u < 128 ^ k → 0 < k → (numL u).length ≤ k := by
  induction u using Nat.strongRecOn with
  | _ u ih =>
    intro k hk h0
    by_cases h : u < 128
    · rw [numL_lt h]; simp; omega
    · rw [numL_ge h]
      cases k with
      | zero => omega
      | succ k =>
        rw [Nat.pow_succ] at hk
        have hk0 : 0 < k := by
          rcases Nat.eq_zero_or_pos k with rfl | h1
          · simp at hk; omega
          · exact h1
        have := ih (u / 128) (by omega) k (by omega) hk0
        simp; omega
/-- an integer without its sign -/
def zig (n : Int) : Nat := if 0 ≤ n then (2 * n).toNat else (-2 * n - 1).toNat
inductive Atom
  | int (n : Int)
  | text (s : List Int)
def Atom.enc : Atom → List Int
  | .int n => 1 :: numL (zig n)
  | .text s => 2 :: (numL s.length ++ s)
def encL (l : List Atom) : List Int := 3 :: (numL l.length ++ (l.map Atom.enc).flatten)
end Go.Proofs.YthhlpkppcbillaaGreatDoor
