/- What '==' says of two digests that are the same. -/
import Derived.Test.YtllcgehfmkmcdaaDoorDig0
import Derived.Laws.StructEq
import Derived.ChangeKeysEq
namespace Go.Proofs.YtllcgehfmkmcdaaDoor
open Go.RowKit
set_option linter.unusedVariables false
set_option linter.unusedSimpArgs false

theorem eqDig_same (xs : List Int) (h : xs.length = 32) (w : World) : (Op.equalIn 10000 35 (.agg (bv xs).toArray) (.agg (bv xs).toArray)).run Tryd.prog w = .ok true w := by
  have hu : Tryd.prog.underlying 35 = some (.array 32 5) := by kernel_rfl
  have hc : Tryd.prog.cellsOf 5 = 1 := by kernel_rfl
  have hint : Tryd.prog.underlying 5 = some (.int .u8) := by kernel_rfl
  obtain ⟨i, hi⟩ := info_of_underlying hint
  have e : ∀ (a : Int) (w : World), (Op.equalIn 9999 5 (.int .u8 a) (.int .u8 a)).run Tryd.prog w = .ok true w := fun a w => by
    rw [run_equalIn_int w 9998 _ _ _ a a hint]; simp
  have hagg : ∀ w : World, (isAgg 5).run Tryd.prog w = .ok false w := fun w => by
    unfold isAgg; rw [Sem.run_bind, run_underlying hint w]; rfl
  have hp : ∀ (k : Nat) (w : World), k < 32 → (part 5 (bv xs).toArray k).run Tryd.prog w = .ok (.int .u8 (xs.getD k 0)) w := fun k w hk => by
    have hg := bv_get xs k (by omega)
    unfold part
    rw [Sem.run_bind, hagg w]
    simp only [Result.andThen_ok, Bool.false_eq_true, if_false]
    rw [hg]; rfl
  have items : ∀ l : List Nat, (∀ k ∈ l, k < 32) → (Op.eqItems 9999 5 1 (bv xs).toArray (bv xs).toArray l).run Tryd.prog w = .ok true w := by
    intro l
    induction l with
    | nil => intro _; rfl
    | cons k l ih =>
      intro hl
      have hk := hl k (by simp)
      simp only [Op.eqItems, Sem.run_bind, Nat.mul_one, hp k w hk, Result.andThen_ok, e]
      simpa using ih fun j hj => hl j (by simp [hj])
  rw [show (10000 : Nat) = 9999 + 1 from rfl, run_equalIn_array w 9999 _ _ hu hi, hc]
  exact items _ fun k hk => by simpa using hk
end Go.Proofs.YtllcgehfmkmcdaaDoor
