/- A drawn region's operation taken first, with a path of edges as its witness: the kernel looks at one path instead of all. -/
import Derived.Test.YtilokkkodocoiaaRegU
namespace Go.Proofs.Ytilokkkodocoiaa
open Go Go.RowKit
set_option linter.unusedVariables false
section
variable {P : Program} {md : Region.Mode} {ops : Array Oper} {Q : Exit → Act → World → Prop} {C D : World → Prop}
def edgeB (md : Region.Mode) (ops : Array Oper) (j i : Nat) : Bool := match ops[j]? with
  | some oj => oj.after.toList.any fun e => Region.binds md e && e.on == i
  | none => false
def pathB (md : Region.Mode) (ops : Array Oper) : Nat → List Nat → Nat → Bool
  | j, [], i => edgeB md ops j i
  | j, k :: p, i => edgeB md ops j k && pathB md ops k p i
theorem edge_some {j i : Nat} (h : edgeB md ops j i = true) : ∃ oj e, ops[j]? = some oj ∧ e ∈ oj.after ∧ Region.binds md e = true ∧ e.on = i := by
  unfold edgeB at h
  split at h
  · rename_i oj hoj
    obtain ⟨e, he, hb⟩ := List.any_eq_true.1 h
    simp only [Bool.and_eq_true, beq_iff_eq] at hb
    exact ⟨oj, e, hoj, by simpa using he, hb.1, hb.2⟩
  · cases h
theorem path_anc {i : Nat} : ∀ (p : List Nat) (j : Nat), pathB md ops j p i = true → ancB md ops (p.length + 1) j i = true
  | [], j, h => by
    obtain ⟨oj, e, h1, h2, h3, h4⟩ := edge_some h
    unfold ancB
    simp only [h1]
    rw [Array.any_eq_true']
    exact ⟨e, h2, by simp [h3, h4]⟩
  | k :: p, j, h => by
    simp only [pathB, Bool.and_eq_true] at h
    obtain ⟨oj, e, h1, h2, h3, h4⟩ := edge_some h.1
    have h5 := path_anc p k h.2
    unfold ancB
    simp only [h1]
    rw [Array.any_eq_true']
    refine ⟨e, h2, ?_⟩
    rw [h4]
    simp only [h3, Bool.true_and, Bool.or_eq_true]
    exact .inr h5
def tlP (md : Region.Mode) (ops : Array Oper) (j : Nat) (listed : Array Bool) (i : Nat) (p : List Nat) : Bool := i != j && (closedB md ops listed && pathB md ops j p i)
theorem anyU_takeP {i : Nat} (d : Tmp) {j : Nat} (p : List Nat) {oi : Oper} {v : Value} {fuel : Nat} {listed : Array Bool} {a : Act} (hi : ops[i]? = some oi) (hd : oi.dst = some d)
    (hs : Region.noSelect ops = true) (hf : Region.free md ops listed i = true) (hr : (Region.ready md ops listed).contains i = true)
    (hQ : ∀ c a w, Q (.panic c) (a.put (some d) v) w → Q (.panic c) a w) (ht : tlP md ops j listed i p = true) (hst : Stable C) (hCD : ∀ u, C u → D u) (hy : YieldsU P ops D oi v a)
    (h : anyU P md ops [j] Q D fuel C (listed.setIfInBounds i true) (a.put (some d) v)) : anyU P md ops [j] Q D (fuel + 1) C listed a := by
  rw [← hd] at hQ h
  simp only [tlP, Bool.and_eq_true, bne_iff_ne] at ht
  refine anyU_first hi (Region.noSelect_spec hs) hQ (by simp [ht.1]) (p.length + 1) (fun k hk => ?_) fuel C listed a (Region.free_spec hi hf) (by simpa using hr) (closedB_spec ht.2.1) hst hCD hy h
  obtain rfl : k = j := by simpa using hk
  exact path_anc p k ht.2.2
end
end Go.Proofs.Ytilokkkodocoiaa
