/- What an index into a letter, or into three words, yields. -/
import Derived.Test.YtbmeljkdemdloaaElgEq
namespace Go.Proofs.Ytbmeljkdemdloaa
set_option linter.unusedVariables false
@[go_sem high] theorem idxS0 (a b c d e f : Int) (w : World) : (Instr.index 34 (.agg #[.int .i64 a, .int .i64 b, .int .i64 c, .int .i64 d, .int .i64 e, .int .i64 f]) (.int .i64 0)).run Try.prog w = .ok (.agg #[.int .i64 a, .int .i64 b]) w := by kernel_rfl
@[go_sem high] theorem idxS1 (a b c d e f : Int) (w : World) : (Instr.index 34 (.agg #[.int .i64 a, .int .i64 b, .int .i64 c, .int .i64 d, .int .i64 e, .int .i64 f]) (.int .i64 1)).run Try.prog w = .ok (.agg #[.int .i64 c, .int .i64 d]) w := by kernel_rfl
@[go_sem high] theorem idxS2 (a b c d e f : Int) (w : World) : (Instr.index 34 (.agg #[.int .i64 a, .int .i64 b, .int .i64 c, .int .i64 d, .int .i64 e, .int .i64 f]) (.int .i64 2)).run Try.prog w = .ok (.agg #[.int .i64 e, .int .i64 f]) w := by kernel_rfl
@[go_sem high] theorem idxW0 (a b c : Int) (w : World) : (Instr.index 30 (.agg #[.int .i64 a, .int .i64 b, .int .i64 c]) (.int .i64 0)).run Try.prog w = .ok (.int .i64 a) w := by kernel_rfl
@[go_sem high] theorem idxW1 (a b c : Int) (w : World) : (Instr.index 30 (.agg #[.int .i64 a, .int .i64 b, .int .i64 c]) (.int .i64 1)).run Try.prog w = .ok (.int .i64 b) w := by kernel_rfl
@[go_sem high] theorem idxW2 (a b c : Int) (w : World) : (Instr.index 30 (.agg #[.int .i64 a, .int .i64 b, .int .i64 c]) (.int .i64 2)).run Try.prog w = .ok (.int .i64 c) w := by kernel_rfl
end Go.Proofs.Ytbmeljkdemdloaa
