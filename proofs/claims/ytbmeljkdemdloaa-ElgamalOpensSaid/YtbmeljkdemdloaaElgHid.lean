/- What ElgamalHides' walk needs: ciphers compared, what is sealed, and the other key. -/
import Derived.Test.YtbmeljkdemdloaaBlks
import Derived.Test.YtbmeljkdemdloaaElgInv
import Derived.Test.YtbmeljkdemdloaaElgTwice0
import Derived.Test.YtbmeljkdemdloaaElgArg
namespace Go.Proofs.Ytbmeljkdemdloaa
open Go.RowKit Go.Shelf
set_option linter.unusedVariables false

@[go_sem] theorem eqCipher1 (a b x y : Int) (w : World) : (Op.equalIn 10000 32 (.agg #[.int .i64 a, .int .i64 b]) (.agg #[.int .i64 x, .int .i64 y])).run Try.prog w = .ok (a == x && b == y) w := by
  have hS : Try.prog.underlying 32 = some (.struct (Try.prog.fieldsOf 32)) := by kernel_rfl
  have hp : Try.prog.stoodInHeld 32 = false := by kernel_rfl
  have hint : Try.prog.underlying 3 = some (.int .i64) := by kernel_rfl
  obtain ⟨f0, f1, hF, n0, n1, t0, t1, o0, o1⟩ : ∃ f0 f1 : Field, Try.prog.fieldsOf 32 = #[f0, f1] ∧ f0.name ≠ "_" ∧ f1.name ≠ "_" ∧ f0.type = 3 ∧ f1.type = 3 ∧ f0.offset = 0 ∧ f1.offset = 1 :=
    ⟨_, _, rfl, by decide, by decide, rfl, rfl, rfl, rfl⟩
  have e : ∀ (a b : Int) (w : World), (Op.equalIn 9999 3 (.int .i64 a) (.int .i64 b)).run Try.prog w = .ok (a == b) w := fun a b w => run_equalIn_int w 9998 _ _ _ a b hint
  have p0 : ∀ (u v : Int) (w : World), (part 3 #[.int .i64 u, .int .i64 v] 0).run Try.prog w = .ok (.int .i64 u) w := fun _ _ _ => by kernel_rfl
  have p1 : ∀ (u v : Int) (w : World), (part 3 #[.int .i64 u, .int .i64 v] 1).run Try.prog w = .ok (.int .i64 v) w := fun _ _ _ => by kernel_rfl
  rw [show (10000 : Nat) = 9999 + 1 from rfl, run_equalIn_struct w 9999 _ _ _ hS hp, hF]
  simp only [Op.eqFields, n0, n1, t0, t1, o0, o1, ne_eq, not_false_eq_true, if_true, Sem.run_bind, p0, p1, e, Result.andThen_ok]
  by_cases h1 : a = x <;> by_cases h2 : b = y <;> simp [h1, h2, p0, p1, e]

theorem seal_val {key n0 n1 n2 : Int} (hk : elB key = true) (hw : words3 n0 n1 n2 = true) (r0 r1 r2 : Int) :
    sealR key n0 n1 n2 r0 r1 r2 = ((powZ 4 r0, mulZ (elmZ n0) (powZ key r0)), (powZ 4 r1, mulZ (elmZ n1) (powZ key r1)), (powZ 4 r2, mulZ (elmZ n2) (powZ key r2))) := by
  have hw' : (wordB n0 && wordB n1 && wordB n2) = true := hw
  unfold sealR; rw [if_pos hk, if_pos hw', sealL_eq]
  unfold mapL sayL gMask
  simp [nth3, mulZ_one (powZ_el elB_4 _)]

/-- the other key: what it makes of the other word -/
theorem other_key {x s p : Int} (hx : elB x = true) (hs : elB s = true) (hp : p % 1073741789 ≠ 0) : mulZ x (powZ (powZ (mulZ s (powZ x (-1))) (invZ p)) p) = s := by
  have hb := powZ_el hx (-1)
  have hm := mulZ_el hs hb
  rw [powZ_mul hm, powZ_congr _ (n := 1) (by rw [inv_ok hp]; rfl), powZ_one hm, mulZ_comm hs hb, ← mulZ_assoc hx hb hs, powZ_inv hx, mulZ_one hs]

theorem words_at {n0 n1 n2 o : Int} (h : words3 n0 n1 n2 = true) (ho : 1 ≤ o ∧ o ≤ 1073741789) : words3 o n1 n2 = true ∧ words3 n0 o n2 = true ∧ words3 n0 n1 o = true := by
  obtain ⟨h0, h1, h2⟩ := words3_iff h
  have hw : wordB o = true := by unfold wordB; simp; omega
  unfold words3
  rw [h0, h1, h2, hw]; exact ⟨rfl, rfl, rfl⟩

def upr (k : Nat) (x0 x1 x2 : Int) : Array Value := #[.int .i64 (if 0 < k then x0 else 0), .int .i64 (if 1 < k then x1 else 0), .int .i64 (if 2 < k then x2 else 0)]
theorem upr_3 (x0 x1 x2 : Int) : upr 3 x0 x1 x2 = #[.int .i64 x0, .int .i64 x1, .int .i64 x2] := by simp [upr]
theorem upr_0 (x0 x1 x2 : Int) : upr 0 x0 x1 x2 = #[.int .i64 0, .int .i64 0, .int .i64 0] := by simp [upr]
theorem upr_set0 (x0 x1 x2 : Int) : (upr 0 x0 x1 x2).setIfInBounds 0 (.int .i64 x0) = upr 1 x0 x1 x2 := by simp [upr]
theorem upr_set1 (x0 x1 x2 : Int) : (upr 1 x0 x1 x2).setIfInBounds 1 (.int .i64 x1) = upr 2 x0 x1 x2 := by simp [upr]
theorem upr_set2 (x0 x1 x2 : Int) : (upr 2 x0 x1 x2).setIfInBounds 2 (.int .i64 x2) = upr 3 x0 x1 x2 := by simp [upr]
end Go.Proofs.Ytbmeljkdemdloaa
