/- A region's end that may begin before an operation that is left. -/
import Derived.Test.YtackklbifppfeaaRegU
namespace Go.Proofs.Ytackklbifppfeaa
open Go Go.RowKit
set_option linter.unusedVariables false
section
variable {P : Program} {md : Region.Mode} {Q : Exit → Act → World → Prop} {C D : World → Prop} {tl : List Nat}
/-- i may come next, or j, with which the tail begins, and then the others in the one order that is left -/
theorem anyU_twoT {L : List Oper} (i j : Nat) (js : List Nat) (g : Nat) {done : Array Bool} {a : Act} (oi oj : Oper) (hi : L[i]? = some oi) (hj : L[j]? = some oj) (hit : tl.contains i = false) (hjt : tl.contains j = true) (hB : decide (Region.ready md L.toArray done = [i, j]) = true)
    (hg : js.length = g) (hjs : (js.all fun i => decide (i < L.length)) = true) (hO : orderB md L.toArray js (done.setIfInBounds j true) = true)
    (h1 : ∀ w, C w → wpList P L.toArray (QU P md L.toArray tl Q D g (done.setIfInBounds i true)) [oi] a w) (h2 : ∀ w, C w → wpList P L.toArray Q (oj :: js.filterMap fun i => L[i]?) a w) : anyU P md L.toArray tl Q D (g + 1) C done a := by
  have hB := of_decide_eq_true hB
  intro w hC
  refine ⟨fun h => (by rw [hB] at h; cases h), fun k hk => ?_⟩
  rw [hB] at hk
  simp only [List.mem_cons, List.not_mem_nil, or_false] at hk
  rcases hk with rfl | rfl
  · exact step_U hi hit (h1 w hC)
  · have hjt' : k ∈ tl := by simpa using hjt
    have hw : wpOp P L.toArray Q k (wpList P L.toArray Q (js.filterMap fun i => L[i]?)) a w := by
      have := h2 w hC
      unfold wpOp; simp only [List.getElem?_toArray, hj]; exact this
    refine wpOp_mono (fun a' w' h' => ?_) hw
    unfold behind
    rw [if_pos hjt']
    exact any_order (P := P) (md := md) (Q := Q) js (g := g) hg hjs hO h'
end
end Go.Proofs.Ytackklbifppfeaa
