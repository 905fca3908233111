/- What ElgamalForm's walk needs: the loop over the ciphers, letters in form stay in form. -/
import Derived.Test.YtbmeljkdemdloaaElgArg
import Derived.Test.YtbmeljkdemdloaaGroupElm
import Derived.Test.YtbmeljkdemdloaaElgIdx
namespace Go.Proofs.Ytbmeljkdemdloaa
open Go.ChangeShapes Go.WideShapes Go.ChangeAt Go.RowKit Go.Shelf
set_option linter.unusedVariables false

theorem chk_six {a0 b0 a1 b1 a2 b2 : Int} (h : chkB a0 b0 a1 b1 a2 b2 = true) : elB a0 = true ∧ elB b0 = true ∧ elB a1 = true ∧ elB b1 = true ∧ elB a2 = true ∧ elB b2 = true := by
  unfold chkB six okC at h; simp at h; exact ⟨h.1.1, h.1.2, h.2.1.1, h.2.1.2, h.2.2.1, h.2.2.2⟩
theorem chk_of {a0 b0 a1 b1 a2 b2 : Int} (h0 : elB a0 = true) (h1 : elB b0 = true) (h2 : elB a1 = true) (h3 : elB b1 = true) (h4 : elB a2 = true) (h5 : elB b2 = true) : chkE a0 b0 a1 b1 a2 b2 = 0 := by
  unfold chkE chkB six okC; simp [h0, h1, h2, h3, h4, h5]
/-- a letter sealed again is in form -/
theorem again_form (key r0 r1 r2 : Int) (l : Let) (hk : elB key = true) (h : chkB l.1.1 l.1.2 l.2.1.1 l.2.1.2 l.2.2.1 l.2.2.2 = true) (L : Let) (hL : againR key r0 r1 r2 l = L) : chkE L.1.1 L.1.2 L.2.1.1 L.2.1.2 L.2.2.1 L.2.2.2 = 0 := by
  subst hL
  obtain ⟨h0, h1, h2, h3, h4, h5⟩ := chk_six h
  unfold againR; rw [if_pos hk, if_pos (by unfold chkE; rw [h]; rfl)]
  exact chk_of (mulZ_el h0 (powZ_el elB_4 _)) (mulZ_el h1 (powZ_el hk _)) (mulZ_el h2 (powZ_el elB_4 _)) (mulZ_el h3 (powZ_el hk _)) (mulZ_el h4 (powZ_el elB_4 _)) (mulZ_el h5 (powZ_el hk _))
theorem strip_form (s : Int) (l : Let) (hk : secB s = true) (h : chkB l.1.1 l.1.2 l.2.1.1 l.2.1.2 l.2.2.1 l.2.2.2 = true) (L : Let) (hL : stripR s l = L) : chkE L.1.1 L.1.2 L.2.1.1 L.2.1.2 L.2.2.1 L.2.2.2 = 0 := by
  subst hL
  obtain ⟨h0, h1, h2, h3, h4, h5⟩ := chk_six h
  unfold stripR; rw [if_pos hk, if_pos (by unfold chkE; rw [h]; rfl)]
  exact chk_of h0 (mulZ_el h1 (powZ_el h0 _)) h2 (mulZ_el h3 (powZ_el h2 _)) h4 (mulZ_el h5 (powZ_el h4 _))

theorem take3 (a0 b0 a1 b1 a2 b2 : Int) (k : Nat) (hk : k = 0 ∨ k = 1 ∨ k = 2) : ((six a0 b0 a1 b1 a2 b2).take (k + 1)).all okC = (((six a0 b0 a1 b1 a2 b2).take k).all okC && (elB (nth3 a0 a1 a2 k) && elB (nth3 b0 b1 b2 k))) := by
  rcases hk with rfl | rfl | rfl <;> simp [six, okC, nth3, Bool.and_assoc]

/-- the loop's end, as the walk needs it -/
theorem form_end {P : Program} : True := trivial
end Go.Proofs.Ytbmeljkdemdloaa
