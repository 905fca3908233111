/- What ElgamalOpens' walk needs: a sealed letter sealed again is one sealed with the sums; what is for no key is read. -/
import Derived.Test.YtbmeljkdemdloaaElgPart0
namespace Go.Proofs.Ytbmeljkdemdloaa
open Go.ChangeShapes Go.WideShapes Go.ChangeAt Go.RowKit Go.Shelf
set_option linter.unusedVariables false

theorem seal_plus {j n0 n1 n2 : Int} (hj : elB j = true) (hw : words3 n0 n1 n2 = true) (p0 p1 p2 q0 q1 q2 : Int) :
    againR j q0 q1 q2 (sealR j n0 n1 n2 p0 p1 p2) = sealR j n0 n1 n2 (p0 + q0) (p1 + q1) (p2 + q2) ∧ againE j (sealR j n0 n1 n2 p0 p1 p2) = 0 := by
  rw [seal_again hj hw, seal_again hj hw]
  exact ⟨again_again hj (okL_say hw) p0 p1 p2 q0 q1 q2, againE_ok hj (okL_again hj (okL_say hw))⟩
theorem powZ_one1 (r : Int) : powZ 1 r = 1 := by
  have h : powZ (powZ 4 0) r = powZ 4 (0 * r) := powZ_mul elB_4 _ _
  rw [Int.zero_mul, powZ_zero elB_4] at h
  exact h
theorem seal_read {n0 n1 n2 : Int} (hw : words3 n0 n1 n2 = true) (p0 p1 p2 : Int) :
    readR (sealR 1 n0 n1 n2 p0 p1 p2) = (n0, n1, n2) ∧ readE (sealR 1 n0 n1 n2 p0 p1 p2) = 0 := by
  obtain ⟨w0, w1, w2⟩ := words3_iff hw
  have e0 := elm_range (wordB_iff w0); have e1 := elm_range (wordB_iff w1); have e2 := elm_range (wordB_iff w2)
  have hE : readE (sealR 1 n0 n1 n2 p0 p1 p2) = 0 := by
    rw [seal_again elB_one hw]
    have h := okL_again (p0 := p0) (p1 := p1) (p2 := p2) elB_one (okL_say hw)
    unfold readE chkE; unfold okL at h; rw [h]; rfl
  refine ⟨?_, hE⟩
  unfold readR
  rw [if_pos hE, seal_val elB_one hw]
  simp only [powZ_one1, mulZ_one_r e0, mulZ_one_r e1, mulZ_one_r e2, (num_elm (wordB_iff w0)).1, (num_elm (wordB_iff w1)).1, (num_elm (wordB_iff w2)).1]
theorem pubs_split {A B : List Int} {x : Int} (ha : A.all secB = true) (hb : B.all secB = true) (hx : secB x = true) :
    joinZ ((A ++ x :: B).map pubZ) = mulZ (joinZ ((A ++ B).map pubZ)) (pubZ x) ∧ elB (joinZ ((A ++ B).map pubZ)) = true := by
  rw [List.map_append, List.map_cons, List.map_append]
  exact join_split (pubs_el ha) (pubs_el hb) (pub_el hx)
theorem pubs_elB {A : List Int} (ha : A.all secB = true) : elB (joinZ (A.map pubZ)) = true := by
  have h := pubs_el ha
  unfold joinZ; rw [if_pos h]; exact foldl_el _ 1 elB_one h
/-- one of the secrets taken off: what is left, and the letter for it -/
theorem off_one {zs : List Int} {k : Nat} (hz : zs.all secB = true) (hk : k < zs.length) {n0 n1 n2 : Int} (hw : words3 n0 n1 n2 = true) (p0 p1 p2 : Int) :
    stripR (zs.getD k 0) (sealR (joinZ (zs.map pubZ)) n0 n1 n2 p0 p1 p2) = sealR (joinZ ((zs.take k ++ zs.drop (k + 1)).map pubZ)) n0 n1 n2 p0 p1 p2
    ∧ stripE (zs.getD k 0) (sealR (joinZ (zs.map pubZ)) n0 n1 n2 p0 p1 p2) = 0 ∧ (zs.take k ++ zs.drop (k + 1)).all secB = true ∧ (zs.take k ++ zs.drop (k + 1)).length + 1 = zs.length := by
  have hsp : zs = zs.take k ++ zs.getD k 0 :: zs.drop (k + 1) := by
    rw [List.getD_eq_getElem?_getD, List.getElem?_eq_getElem hk]; simp
  have hs := all_at hz hk
  obtain ⟨A, hA⟩ : ∃ A, zs.take k = A := ⟨_, rfl⟩
  obtain ⟨B, hB⟩ : ∃ A, zs.drop (k + 1) = A := ⟨_, rfl⟩
  obtain ⟨x, hx⟩ : ∃ A, zs.getD k 0 = A := ⟨_, rfl⟩
  rw [hA, hB, hx] at hsp; rw [hx] at hs; rw [hA, hB, hx]
  subst hsp
  rw [List.all_append, List.all_cons] at hz
  simp only [Bool.and_eq_true] at hz
  obtain ⟨h1, h2⟩ := pubs_split hz.1 hz.2.2 hs
  obtain ⟨h3, h4⟩ := strip_seal (r0 := p0) (r1 := p1) (r2 := p2) h2 hs hw
  rw [h1]
  exact ⟨h3, h4, by rw [List.all_append, hz.1, hz.2.2]; rfl, by simp; omega⟩
end Go.Proofs.Ytbmeljkdemdloaa
