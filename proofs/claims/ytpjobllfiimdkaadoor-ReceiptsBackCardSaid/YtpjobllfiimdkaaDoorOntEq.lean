/- What == says of two return addresses. -/
import Derived.Test.YtpjobllfiimdkaaDoorOntZB
import Derived.Test.YtpjobllfiimdkaaDoorElgEqZ
namespace Go.Proofs.YtpjobllfiimdkaaDoor
open Go.RowKit
set_option linter.unusedVariables false
set_option linter.unusedSimpArgs false

set_option maxRecDepth 100000 in
theorem rpart0 {zs : List Int} (h : zs.length = 32) (l k a b : Int) (w : World) : (part 3 (rtv l k a b zs).toArray 0).run Tryd.prog w = .ok (.int .i64 l) w := by
  obtain ⟨z0, z1, z2, z3, z4, z5, z6, z7, z8, z9, z10, z11, z12, z13, z14, z15, z16, z17, z18, z19, z20, z21, z22, z23, z24, z25, z26, z27, z28, z29, z30, z31, rfl⟩ := list32 zs h
  kernel_rfl
set_option maxRecDepth 100000 in
theorem rpart1 {zs : List Int} (h : zs.length = 32) (l k a b : Int) (w : World) : (part 3 (rtv l k a b zs).toArray 1).run Tryd.prog w = .ok (.int .i64 k) w := by
  obtain ⟨z0, z1, z2, z3, z4, z5, z6, z7, z8, z9, z10, z11, z12, z13, z14, z15, z16, z17, z18, z19, z20, z21, z22, z23, z24, z25, z26, z27, z28, z29, z30, z31, rfl⟩ := list32 zs h
  kernel_rfl
set_option maxRecDepth 100000 in
theorem rpart2 {zs : List Int} (h : zs.length = 32) (l k a b : Int) (w : World) : (part 31 (rtv l k a b zs).toArray 2).run Tryd.prog w = .ok (.agg #[.int .i64 a, .int .i64 b]) w := by
  obtain ⟨z0, z1, z2, z3, z4, z5, z6, z7, z8, z9, z10, z11, z12, z13, z14, z15, z16, z17, z18, z19, z20, z21, z22, z23, z24, z25, z26, z27, z28, z29, z30, z31, rfl⟩ := list32 zs h
  kernel_rfl
set_option maxRecDepth 100000 in
theorem rpart3 {zs : List Int} (h : zs.length = 32) (l k a b : Int) (w : World) : (part 33 (rtv l k a b zs).toArray 4).run Tryd.prog w = .ok (.agg (bv zs).toArray) w := by
  obtain ⟨z0, z1, z2, z3, z4, z5, z6, z7, z8, z9, z10, z11, z12, z13, z14, z15, z16, z17, z18, z19, z20, z21, z22, z23, z24, z25, z26, z27, z28, z29, z30, z31, rfl⟩ := list32 zs h
  kernel_rfl

set_option maxRecDepth 100000 in
theorem eqRt_any (l k a b : Int) (zs : List Int) (l' k' a' b' : Int) (ys : List Int) (h : zs.length = 32) (h' : ys.length = 32) (w : World) : (Op.equalIn 10000 35 (.agg (rtv l k a b zs).toArray) (.agg (rtv l' k' a' b' ys).toArray)).run Tryd.prog w = .ok ((l == l') && ((k == k') && ((a == a' && b == b') && decide (zs = ys)))) w := by
  obtain ⟨f0, f1, f2, f3, hU, o0, o1, o2, o3, t0, t1, t2, t3, n0, n1, n2, n3⟩ : ∃ f0 f1 f2 f3 : Field, Tryd.prog.underlying 35 = some (.struct #[f0, f1, f2, f3]) ∧ f0.offset = 0 ∧ f1.offset = 1 ∧ f2.offset = 2 ∧ f3.offset = 4 ∧ f0.type = 3 ∧ f1.type = 3 ∧ f2.type = 31 ∧ f3.type = 33 ∧ f0.name ≠ "_" ∧ f1.name ≠ "_" ∧ f2.name ≠ "_" ∧ f3.name ≠ "_" := ⟨_, _, _, _, Tryd.underlying35, rfl, rfl, rfl, rfl, rfl, rfl, rfl, rfl, by decide, by decide, by decide, by decide⟩
  have hF : (Tryd.prog.fieldsOf 35).toList = [f0, f1, f2, f3] := by simp [Program.fieldsOf, hU]
  have hint : Tryd.prog.underlying 3 = some (.int .i64) := Tryd.underlying3
  have e : ∀ (x y : Int) (w : World), (Op.equalIn 9999 3 (.int .i64 x) (.int .i64 y)).run Tryd.prog w = .ok (x == y) w := fun x y w => run_equalIn_int w 9998 _ _ _ x y hint
  have ec := eqCipher a b a' b'
  have ed := eqDig_d 9997 zs ys h h'
  rw [show (9997 + 1 + 1 : Nat) = 9999 from rfl] at ed
  rw [run_equalIn_struct w 9999 _ _ _ (by rw [hU]; simp [Program.fieldsOf, hU]) (by kernel_rfl), hF]
  simp only [Op.eqFields, n0, n1, n2, n3, o0, o1, o2, o3, t0, t1, t2, t3, ne_eq, not_false_eq_true, if_true, Sem.run_bind, rpart0 h, rpart0 h', Result.andThen_ok, e]
  by_cases h1 : l = l'
  case neg => simp [h1]
  simp only [h1, BEq.rfl, Bool.not_true, Bool.false_eq_true, if_false, Sem.run_bind, rpart1 h, rpart1 h', Result.andThen_ok, e, Bool.true_and]
  by_cases h2 : k = k'
  case neg => simp [h2]
  simp only [h2, BEq.rfl, Bool.not_true, Bool.false_eq_true, if_false, Sem.run_bind, rpart2 h, rpart2 h', Result.andThen_ok, ec, Bool.true_and]
  cases h3 : (a == a' && b == b') with
  | false => simp
  | true =>
    simp only [Bool.not_true, Bool.false_eq_true, if_false, Sem.run_bind, rpart3 h, rpart3 h', Result.andThen_ok, ed, Bool.true_and]
    by_cases h4 : zs = ys <;> simp [h4]
theorem exec_build {o : Oper} {ev : Operand → Value} (t : TypeId) (parts : Array (Nat × Operand)) (ho : o.op = .build t parts) (pv : List (Nat × Value)) (hp0 : (parts.toList.map fun (i, x) => (i, ev x)) = pv) (cs : Array Value) (hb : Tryd.prog.built t pv = some cs) (u : World) :
    (execOp ev o).run Tryd.prog u = .ok (.value (.agg cs)) u := by
  have hp : (parts.map fun (i, x) => (i, ev x)).toList = pv := by rw [Array.toList_map]; exact hp0
  unfold execOp
  simp only [ho, Sem.run_bind, run_build u t _ cs (by rw [hp]; exact hb), Result.andThen_ok]
  rfl
theorem eqRt_same (l k a b : Int) (zs : List Int) (h : zs.length = 32) (w : World) : (Op.equalIn 10000 35 (.agg (rtv l k a b zs).toArray) (.agg (rtv l k a b zs).toArray)).run Tryd.prog w = .ok true w := by
  rw [eqRt_any l k a b zs l k a b zs h h w]; simp
end Go.Proofs.YtpjobllfiimdkaaDoor
