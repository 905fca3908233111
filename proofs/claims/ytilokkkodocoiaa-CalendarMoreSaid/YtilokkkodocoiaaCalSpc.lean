/- Named forms of the reference's contracts. -/
import Derived.Test.YtilokkkodocoiaaCalArg
namespace Go.Proofs.Ytilokkkodocoiaa
open Go.ChangeShapes Go.WideShapes Go.ChangeAt Go.RowKit Go.WideElems
set_option linter.unusedVariables false
set_option linter.unusedSimpArgs false

theorem cmom_ah (p : Option Addr) (n c : Nat) (rs : List Rl) (q : Option Addr) (m d : Nat) (gs : List Gp) (a b : Int) (w : World) (hr : Hid (RulesV w p n c rs)) (hg : Hid (GapsV w q m d gs)) (E : Int) (L : List Int) (hE : Hid (momE rs gs a b = E)) (hL : Hid (momR rs gs a b = L)) :
    Calls Try.prog 10 #[.slice p n c, .slice q m d, .int .i64 a, .int .i64 b] w fun e w' => ∃ v, e = .returned (.tuple #[v, .int .i64 E]) ∧ OwnI w' w.heap.size v L ∧ Below w.heap.size w w' := by
  have h1 := hE.out; have h2 := hL.out; subst h1 h2; exact cmom_is p n c rs q m d gs a b w hr hg
theorem rmom_ah (p : Option Addr) (n c : Nat) (rs : List Rl) (q : Option Addr) (m d : Nat) (gs : List Gp) (a b : Int) (w : World) (hr : Hid (RulesV w p n c rs)) (hg : Hid (GapsV w q m d gs)) (E : Int) (L : List Int) (hE : Hid (momE rs gs a b = E)) (hL : Hid (momR rs gs a b = L)) :
    Calls Try.prog 11 #[.slice p n c, .slice q m d, .int .i64 a, .int .i64 b] w fun e w' => ∃ v, e = .returned (.tuple #[v, .int .i64 E]) ∧ OwnI w' w.heap.size v L ∧ Below w.heap.size w w' := by
  have h1 := hE.out; have h2 := hL.out; subst h1 h2; exact rmom_is p n c rs q m d gs a b w hr hg
theorem cnxt_ah (p : Option Addr) (n c : Nat) (rs : List Rl) (q : Option Addr) (m d : Nat) (gs : List Gp) (a : Int) (w : World) (hr : Hid (RulesV w p n c rs)) (hg : Hid (GapsV w q m d gs)) (x : Int) (o : Bool) (E : Int) (hx : Hid (nxtM rs gs a = x)) (ho : Hid (nxtB rs gs a = o)) (hE : Hid (nxtE rs gs a = E)) :
    Calls Try.prog 15 #[.slice p n c, .slice q m d, .int .i64 a] w fun e w' => e = .returned (.tuple #[.int .i64 x, .bool o, .int .i64 E]) ∧ Below w.heap.size w w' := by
  have h1 := hE.out; have h2 := hx.out; have h3 := ho.out; subst h1 h2 h3; exact cnxt_is p n c rs q m d gs a w hr hg
theorem rnxt_ah (p : Option Addr) (n c : Nat) (rs : List Rl) (q : Option Addr) (m d : Nat) (gs : List Gp) (a : Int) (w : World) (hr : Hid (RulesV w p n c rs)) (hg : Hid (GapsV w q m d gs)) (x : Int) (o : Bool) (E : Int) (hx : Hid (nxtM rs gs a = x)) (ho : Hid (nxtB rs gs a = o)) (hE : Hid (nxtE rs gs a = E)) :
    Calls Try.prog 16 #[.slice p n c, .slice q m d, .int .i64 a] w fun e w' => e = .returned (.tuple #[.int .i64 x, .bool o, .int .i64 E]) ∧ Below w.heap.size w w' := by
  have h1 := hE.out; have h2 := hx.out; have h3 := ho.out; subst h1 h2 h3; exact rnxt_is p n c rs q m d gs a w hr hg
theorem named {α : Type} (x : α) : ∃ y, Hid (x = y) := ⟨x, Lib.hid rfl⟩
theorem momR_len {rs : List Rl} {gs : List Gp} {a b : Int} : (momR rs gs a b).length ≤ 2000 := by
  by_cases h : momE rs gs a b = 0
  · rw [momR_ok h]
    by_cases hc : chkE rs gs = 0
    · by_cases hb : badB a b = true
      · rw [momE_bad hc hb] at h; cases h
      · by_cases hl : 2000 < (momL rs gs a b).length
        · rw [momE_big hc (by simpa using hb) hl] at h; cases h
        · omega
    · rw [momE_chk hc] at h; exact absurd h hc
  · rw [momR_nil h]; simp
end Go.Proofs.Ytilokkkodocoiaa
