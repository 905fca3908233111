/- What == says of two letters, of three words. -/
import Derived.Laws.StructEq
import Derived.ChangeKeysEq
import Derived.Test.YtpjobllfiimdkaaGreatDoorElgZC
namespace Go.Proofs.YtpjobllfiimdkaaGreatDoor
open Go.RowKit Go.Shelf
set_option linter.unusedVariables false
set_option linter.unusedSimpArgs false

@[go_sem] theorem eqWords (a b c x y z : Int) (w : World) : (Op.equalIn 10000 23 (.agg #[.int .i64 a, .int .i64 b, .int .i64 c]) (.agg #[.int .i64 x, .int .i64 y, .int .i64 z])).run Tryz.prog w = .ok (a == x && (b == y && c == z)) w := by
  have hu : Tryz.prog.underlying 23 = some (.array 3 3) := by kernel_rfl
  have hc : Tryz.prog.cellsOf 3 = 1 := by kernel_rfl
  have hint : Tryz.prog.underlying 3 = some (.int .i64) := by kernel_rfl
  obtain ⟨i, hi⟩ := info_of_underlying hint
  have e : ∀ (a b : Int) (w : World), (Op.equalIn 9999 3 (.int .i64 a) (.int .i64 b)).run Tryz.prog w = .ok (a == b) w := fun a b w => run_equalIn_int w 9998 _ _ _ a b hint
  have p0 : ∀ (u v r : Int) (w : World), (part 3 #[.int .i64 u, .int .i64 v, .int .i64 r] 0).run Tryz.prog w = .ok (.int .i64 u) w := fun _ _ _ _ => by kernel_rfl
  have p1 : ∀ (u v r : Int) (w : World), (part 3 #[.int .i64 u, .int .i64 v, .int .i64 r] 1).run Tryz.prog w = .ok (.int .i64 v) w := fun _ _ _ _ => by kernel_rfl
  have p2 : ∀ (u v r : Int) (w : World), (part 3 #[.int .i64 u, .int .i64 v, .int .i64 r] 2).run Tryz.prog w = .ok (.int .i64 r) w := fun _ _ _ _ => by kernel_rfl
  rw [show (10000 : Nat) = 9999 + 1 from rfl, run_equalIn_array w 9999 _ _ hu hi, hc]
  simp only [List.range_succ, List.range_zero, List.nil_append, List.cons_append, Op.eqItems, Sem.run_bind, Nat.mul_one, Nat.zero_mul, p0, p1, p2, e, Result.andThen_ok]
  by_cases h1 : a = x <;> by_cases h2 : b = y <;> by_cases h3 : c = z <;> simp [h1, h2, h3, p0, p1, p2, e]

set_option maxRecDepth 100000 in
theorem eqCipher (a b x y : Int) (w : World) : (Op.equalIn 9999 25 (.agg #[.int .i64 a, .int .i64 b]) (.agg #[.int .i64 x, .int .i64 y])).run Tryz.prog w = .ok (a == x && b == y) w := by
  have hS : Tryz.prog.underlying 25 = some (.struct (Tryz.prog.fieldsOf 25)) := by kernel_rfl
  have hp : Tryz.prog.stoodInHeld 25 = false := by kernel_rfl
  have hint : Tryz.prog.underlying 3 = some (.int .i64) := by kernel_rfl
  obtain ⟨f0, f1, hF, n0, n1, t0, t1, o0, o1⟩ : ∃ f0 f1 : Field, Tryz.prog.fieldsOf 25 = #[f0, f1] ∧ f0.name ≠ "_" ∧ f1.name ≠ "_" ∧ f0.type = 3 ∧ f1.type = 3 ∧ f0.offset = 0 ∧ f1.offset = 1 :=
    ⟨_, _, rfl, by decide, by decide, rfl, rfl, rfl, rfl⟩
  have e : ∀ (a b : Int) (w : World), (Op.equalIn 9998 3 (.int .i64 a) (.int .i64 b)).run Tryz.prog w = .ok (a == b) w := fun a b w => run_equalIn_int w 9997 _ _ _ a b hint
  have p0 : ∀ (u v : Int) (w : World), (part 3 #[.int .i64 u, .int .i64 v] 0).run Tryz.prog w = .ok (.int .i64 u) w := fun _ _ _ => by kernel_rfl
  have p1 : ∀ (u v : Int) (w : World), (part 3 #[.int .i64 u, .int .i64 v] 1).run Tryz.prog w = .ok (.int .i64 v) w := fun _ _ _ => by kernel_rfl
  rw [show (9999 : Nat) = 9998 + 1 from rfl, run_equalIn_struct w 9998 _ _ _ hS hp, hF]
  simp only [Op.eqFields, n0, n1, t0, t1, o0, o1, ne_eq, not_false_eq_true, if_true, Sem.run_bind, p0, p1, e, Result.andThen_ok]
  by_cases h1 : a = x <;> by_cases h2 : b = y <;> simp [h1, h2, p0, p1, e]

set_option maxRecDepth 100000 in
@[go_sem] theorem eqSealed (a b c d e f x y z u v r : Int) (w : World) : (Op.equalIn 10000 32 (.agg #[.int .i64 a, .int .i64 b, .int .i64 c, .int .i64 d, .int .i64 e, .int .i64 f]) (.agg #[.int .i64 x, .int .i64 y, .int .i64 z, .int .i64 u, .int .i64 v, .int .i64 r])).run Tryz.prog w = .ok ((a == x && b == y) && ((c == z && d == u) && (e == v && f == r))) w := by
  have hu : Tryz.prog.underlying 32 = some (.array 3 25) := by kernel_rfl
  have hc : Tryz.prog.cellsOf 25 = 2 := by kernel_rfl
  have hS : Tryz.prog.underlying 25 = some (.struct (Tryz.prog.fieldsOf 25)) := by kernel_rfl
  obtain ⟨i, hi⟩ := info_of_underlying hS
  have p0 : ∀ (a b c d e f : Int) (w : World), (part 25 #[.int .i64 a, .int .i64 b, .int .i64 c, .int .i64 d, .int .i64 e, .int .i64 f] 0).run Tryz.prog w = .ok (.agg #[.int .i64 a, .int .i64 b]) w := fun _ _ _ _ _ _ _ => by kernel_rfl
  have p1 : ∀ (a b c d e f : Int) (w : World), (part 25 #[.int .i64 a, .int .i64 b, .int .i64 c, .int .i64 d, .int .i64 e, .int .i64 f] 2).run Tryz.prog w = .ok (.agg #[.int .i64 c, .int .i64 d]) w := fun _ _ _ _ _ _ _ => by kernel_rfl
  have p2 : ∀ (a b c d e f : Int) (w : World), (part 25 #[.int .i64 a, .int .i64 b, .int .i64 c, .int .i64 d, .int .i64 e, .int .i64 f] 4).run Tryz.prog w = .ok (.agg #[.int .i64 e, .int .i64 f]) w := fun _ _ _ _ _ _ _ => by kernel_rfl
  rw [show (10000 : Nat) = 9999 + 1 from rfl, run_equalIn_array w 9999 _ _ hu hi, hc]
  simp only [List.range_succ, List.range_zero, List.nil_append, List.cons_append, Op.eqItems, Sem.run_bind, Nat.one_mul, Nat.zero_mul, p0, eqCipher, Result.andThen_ok, show 2 * 2 = 4 from rfl, show 1 * 2 = 2 from rfl]
  by_cases h1 : a = x <;> by_cases h2 : b = y <;> by_cases h3 : c = z <;> by_cases h4 : d = u <;> by_cases h5 : e = v <;> by_cases h6 : f = r <;> simp [h1, h2, h3, h4, h5, h6, p0, p1, p2, eqCipher]
end Go.Proofs.YtpjobllfiimdkaaGreatDoor
