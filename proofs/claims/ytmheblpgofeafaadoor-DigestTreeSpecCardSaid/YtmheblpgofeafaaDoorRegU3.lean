/- Three operations of a drawn region, each of which may come next. -/
import Derived.Test.YtmheblpgofeafaaDoorRegU
namespace Go.Proofs.YtmheblpgofeafaaDoor
open Go Go.RowKit
set_option linter.unusedVariables false
section
variable {P : Program} {md : Region.Mode} {Q : Exit → Act → World → Prop} {C D : World → Prop} {tl : List Nat}
theorem anyU_three {L : List Oper} (i j k : Nat) (g : Nat) {done : Array Bool} {a : Act} (oi oj ok : Oper) (hi : L[i]? = some oi) (hj : L[j]? = some oj) (hk : L[k]? = some ok) (hit : tl.contains i = false) (hjt : tl.contains j = false) (hkt : tl.contains k = false) (hB : decide (Region.ready md L.toArray done = [i, j, k]) = true)
    (h1 : ∀ w, C w → wpList P L.toArray (QU P md L.toArray tl Q D g (done.setIfInBounds i true)) [oi] a w) (h2 : ∀ w, C w → wpList P L.toArray (QU P md L.toArray tl Q D g (done.setIfInBounds j true)) [oj] a w) (h3 : ∀ w, C w → wpList P L.toArray (QU P md L.toArray tl Q D g (done.setIfInBounds k true)) [ok] a w) : anyU P md L.toArray tl Q D (g + 1) C done a := by
  have hB := of_decide_eq_true hB
  intro w hC
  refine ⟨fun h => (by rw [hB] at h; cases h), fun m hm => ?_⟩
  rw [hB] at hm
  simp only [List.mem_cons, List.not_mem_nil, or_false] at hm
  rcases hm with rfl | rfl | rfl
  · exact step_U hi hit (h1 w hC)
  · exact step_U hj hjt (h2 w hC)
  · exact step_U hk hkt (h3 w hC)
end
end Go.Proofs.YtmheblpgofeafaaDoor
