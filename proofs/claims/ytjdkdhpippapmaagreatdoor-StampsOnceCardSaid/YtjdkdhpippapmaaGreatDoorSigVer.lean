/- What the laws of package sign share. -/
import Derived.Test.YtjdkdhpippapmaaGreatDoorSigVf
import Derived.Laws.StructEq
import Derived.ChangeKeysEq
import Derived.Lib.SlBytesConst
import Derived.Lib.SmallJoins
namespace Go.Proofs.YtjdkdhpippapmaaGreatDoor
open Go.RowKit Go.Shelf
set_option linter.unusedVariables false
set_option linter.unusedSimpArgs false

set_option maxRecDepth 100000 in
set_option maxHeartbeats 1000000 in
theorem eqSig (a b x y : Int) (w : World) : (Op.equalIn 10000 25 (.agg #[.int .i64 a, .int .i64 b]) (.agg #[.int .i64 x, .int .i64 y])).run Tryz.prog w = .ok (a == x && b == y) w := by
  have hS : Tryz.prog.underlying 25 = some (.struct (Tryz.prog.fieldsOf 25)) := by kernel_rfl
  have hp : Tryz.prog.stoodInHeld 25 = false := by kernel_rfl
  have hint : Tryz.prog.underlying 3 = some (.int .i64) := by kernel_rfl
  obtain ⟨f0, f1, hF, n0, n1, t0, t1, o0, o1⟩ : ∃ f0 f1 : Field, Tryz.prog.fieldsOf 25 = #[f0, f1] ∧ f0.name ≠ "_" ∧ f1.name ≠ "_" ∧ f0.type = 3 ∧ f1.type = 3 ∧ f0.offset = 0 ∧ f1.offset = 1 :=
    ⟨_, _, rfl, by decide, by decide, rfl, rfl, rfl, rfl⟩
  have e : ∀ (a b : Int) (w : World), (Op.equalIn 9999 3 (.int .i64 a) (.int .i64 b)).run Tryz.prog w = .ok (a == b) w := fun a b w => run_equalIn_int w 9998 _ _ _ a b hint
  have p0 : ∀ (u v : Int) (w : World), (part 3 #[.int .i64 u, .int .i64 v] 0).run Tryz.prog w = .ok (.int .i64 u) w := fun _ _ _ => by kernel_rfl
  have p1 : ∀ (u v : Int) (w : World), (part 3 #[.int .i64 u, .int .i64 v] 1).run Tryz.prog w = .ok (.int .i64 v) w := fun _ _ _ => by kernel_rfl
  rw [show (10000 : Nat) = 9999 + 1 from rfl, run_equalIn_struct w 9999 _ _ _ hS hp, hF]
  simp only [Op.eqFields, n0, n1, t0, t1, o0, o1, ne_eq, not_false_eq_true, if_true, Sem.run_bind, p0, p1, e, Result.andThen_ok]
  by_cases h1 : a = x <;> by_cases h2 : b = y <;> simp [h1, h2, p0, p1, e]
theorem verify_is (key e s : Int) (p : Option Addr) (m c : Nat) (bs : List Int) (w : World) (hs : Hid (txOk bs)) (hz : Hid (SrcW w p m c bs)) (hk : Hid (KeysAt w)) (v : Bool) (hv : Hid (IsVer key bs e s v)) :
    Calls Tryz.prog 37 #[.int .i64 key, .slice p m c, .agg #[.int .i64 e, .int .i64 s]] w fun r w' => r = .returned (.bool v) ∧ Below w.heap.size w w' := by
  obtain ⟨h, h1, h2⟩ := hv.out
  cases hb : (elB key && inQ e && inQ s) with
  | false =>
    rw [hb] at h2
    subst h2
    exact verify_no key e s p m c w (Lib.hid hb)
  | true =>
    rw [hb, Bool.true_and] at h2
    subst h2
    simp only [Bool.and_eq_true] at hb
    exact verify_yes key e s p m c bs w (Lib.hid hb.1.1) hb.1.2 hb.2 hs hz hk h (Lib.hid h1)
theorem srcW_set {W : World} {b0 off m c b o : Nat} {zs : List Int} {v : Value} (h : SrcW W (some ⟨b0, off, none⟩) m c zs) (hne : b0 ≠ b) : SrcW (W.setCell ⟨b, o, none⟩ v) (some ⟨b0, off, none⟩) m c zs := by
  rcases h with ⟨h1, ⟨h2, _⟩ | ⟨b', off', h2, h3, h4⟩⟩ | h
  · cases h2
  · cases h2
    exact .inl ⟨h1, .inr ⟨b0, off, rfl, by simpa using h3, fun j hj => (World.cell?_of_block (a := ⟨b0, off + j, none⟩) (Below.heap_setCell W ⟨b, o, none⟩ v b0 hne)).trans (h4 j hj)⟩⟩
  · exact .inr h
theorem c_pow5 : powZ 4 5 = 1024 := by unfold powZ; rw [elB_4]; rfl
theorem c_powQ1 : powZ 4 1073741788 = 536870895 := by
  rw [← c_pow3]
  apply powZ_congr
  decide
theorem nil_ok : txOk [] := ⟨by decide, by decide⟩
theorem nil_src (w : World) : SrcW w none 0 0 [] := .inl ⟨rfl, .inl ⟨rfl, rfl, rfl⟩⟩
end Go.Proofs.YtjdkdhpippapmaaGreatDoor
