/- The examples of the chapter, in plain numbers. -/
import Derived.Test.YtilokkkodocoiaaCalRMo
namespace Go.Proofs.Ytilokkkodocoiaa
open Go.RowKit
set_option linter.unusedVariables false
set_option linter.unusedSimpArgs false

def exR : List Rl := [(5, 40, 10)]
def exG : List Gp := [(15, 25)]
theorem exV : Valid exR exG := validB_iff.1 (by decide)
theorem ex_go {rs : List Rl} {gs : List Gp} {t M : Int} (hv : Valid rs gs) (h1 : folM rs t = M) (ht : t ≤ 2097152) (h2 : M < 2097152) (h3 : depB rs gs M = true) : depL rs gs t = M :: depL rs gs (M + 1) := by
  rw [folM_skip hv ht, h1, depL_hit h2 h3]
theorem ex_stop {rs : List Rl} {gs : List Gp} {t : Int} (hv : Valid rs gs) (h1 : folM rs t = 2097152) (ht : t ≤ 2097152) : depL rs gs t = [] := by
  rw [folM_skip hv ht, h1, depL_end (by omega)]
theorem ex36 : depL exR exG 36 = [] := ex_stop exV (by decide) (by omega)
theorem ex26 : depL exR exG 26 = [35] := by rw [ex_go exV (M := 35) (by decide) (by omega) (by omega) (by decide), show (35 : Int) + 1 = 36 from rfl, ex36]
theorem ex6 : depL exR exG 6 = [25, 35] := by
  rw [folM_skip exV (by omega), show folM exR 6 = 15 by decide, gap_skip (g := ((15, 25) : Gp)) (gs := exG) List.mem_cons_self (by decide) (by decide)]
  show depL exR exG 25 = _
  rw [depL_hit (by omega) (by decide), show (25 : Int) + 1 = 26 from rfl, ex26]
theorem ex0 : depL exR exG 0 = [5, 25, 35] := by rw [ex_go exV (M := 5) (by decide) (by omega) (by omega) (by decide), show (5 : Int) + 1 = 6 from rfl, ex6]
theorem exC : chkE exR exG = 0 := by decide
theorem exM : momL exR exG 0 100 = [5, 25, 35] := by unfold momL; rw [ex0]; decide
theorem exE : momE exR exG 0 100 = 0 := momE_ok exC (by decide) (by rw [exM]; decide)
theorem exMR : momR exR exG 0 100 = [5, 25, 35] := by rw [momR_ok exE, exM]
theorem exN : nxtE exR exG 6 = 0 := nxtE_ok exC (by decide)
theorem exNM : nxtM exR exG 6 = 25 ∧ nxtB exR exG 6 = true := nxt_some exN ex6
theorem ex36n : depL exR [] 36 = [] := ex_stop (validB_iff.1 (by decide)) (by decide) (by omega)
theorem exCn : chkE exR [] = 0 := by decide
theorem exNn : nxtE exR [] 36 = 0 := nxtE_ok exCn (by decide)
theorem exNMn : nxtM exR [] 36 = 0 ∧ nxtB exR [] 36 = false := nxt_none exNn ex36n
theorem exNil : momL [] [] 0 100 = [] := by unfold momL; rw [ex_stop (validB_iff.1 (by decide)) (by decide) (by omega)]; rfl
theorem exEn : momE [] [] 0 100 = 0 := momE_ok (by decide) (by decide) (by rw [exNil]; decide)
theorem exMn : momR [] [] 0 100 = [] := by rw [momR_ok exEn, exNil]
theorem exB : momE exR exG 5 4 = 1 := momE_bad exC (by decide)
theorem exF : nxtE exR exG (-1) = 1 := nxtE_bad exC (by decide)
theorem exFM : nxtM exR exG (-1) = 0 ∧ nxtB exR exG (-1) = false := nxt_nil (by rw [exF]; decide)
def exL : List Rl := [(0, 2001, 1)]
theorem exLd {t : Int} (h0 : 0 ≤ t) (h1 : t < 2001) : depB exL [] t = true := by
  unfold depB exL hitB
  simp only [List.any_nil, List.any_cons, Bool.not_false, Bool.true_and, Bool.or_false, Bool.and_eq_true, decide_eq_true_eq]
  exact ⟨⟨h0, h1⟩, Int.emod_one _⟩
theorem exLn : ∀ k : Nat, k ≤ 2001 → k ≤ (depL exL [] (2001 - (k : Int))).length
  | 0, _ => Nat.zero_le _
  | k + 1, h => by
    rw [depL_hit (by omega) (exLd (by omega) (by omega)), List.length_cons]
    have := exLn k (by omega)
    rw [show (2001 : Int) - ((k + 1 : Nat) : Int) + 1 = 2001 - (k : Int) by omega]
    omega
theorem exLE : momE exL [] 0 2097152 = 2 := momE_big (by decide) (by decide) (by
  unfold momL
  rw [takeWhile_all (fun t ht => decide_eq_true (mem_depL.1 ht).2.1)]
  have := exLn 2001 (by omega)
  have e : (2001 : Int) - ((2001 : Nat) : Int) = 0 := by decide
  rw [e] at this
  omega)
theorem exLR : momR exL [] 0 2097152 = [] := momR_nil (by rw [exLE]; decide)
theorem exK1 : chkE [(0, 0, 1)] [] = 190 := by decide
theorem exK2 : chkE [] [(1, 2), (2, 3)] = 190 := by decide
theorem exK3 : chkE (List.replicate 17 (0, 0, 0)) [] = 2 := chk_big (.inl (by decide))
end Go.Proofs.Ytilokkkodocoiaa
