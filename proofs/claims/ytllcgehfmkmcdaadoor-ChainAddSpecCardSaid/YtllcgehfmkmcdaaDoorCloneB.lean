/- slices.Clone of bytes. -/
import Derived.Laws.Cover3
import Derived.Test.YtllcgehfmkmcdaaDoorChnVal
namespace Go.Proofs.YtllcgehfmkmcdaaDoor
open Go.RowKit
set_option linter.unusedVariables false

theorem run_eql_nil35 (a : Option Addr) (l c : Nat) (w : World) : (binOp .eql 23 (.slice a l c) (.slice none 0 0)).run Tryd.prog w = .ok (.bool a.isNone) w := by
  simp only [binOp]
  simp [run_equal_slice_nil w 23 5 a l c Tryd.underlying23]
attribute [local go_sem] run_eql_nil35
/-- a slice of these bytes -/
def IsRow (B : Nat) (bs : List Int) (w' : World) (e : Ending) : Prop := ∃ q c', e = .returned (.slice q bs.length c') ∧ SrcW w' q bs.length c' bs ∧ (∀ a, q = some a → B ≤ a.block) ∧ bs.length ≤ c' ∧ c' ≤ 9223372036854775807
theorem clone_some (a : Addr) (m c : Nat) (bs : List Int) (w : World) (hz : Hid (SrcW w (some a) m c bs)) (hm : m ≤ 1000000) :
    Calls Tryd.prog 22 #[.slice (some a) m c] w fun e w' => IsRow w.heap.size bs w' e ∧ Below w.heap.size w w' := by
  have hml := Lib.hid (srcW_len hz.out)
  go_enter Tryd.func22, Tryd.ntmps22
  go_wp2_with (at_builtin; refine app8w rfl (.tmp 5) (.tmp 6) rfl w.heap.size (.slice (some ⟨w.heap.size, 0, none⟩) 0 0) [] rfl ?c0 (some a) m c bs rfl ?c1 ?c2 ?c3 ?_)
  case c0 => exact own8_empty w
  case c1 => exact hz.out.below (bel_alloc1 _ _)
  case c2 => have := hml.out; simp; omega
  case c3 => simp
  intro v1 w1 ho hg
  have HB1 := Lib.hid (bel_grown8 (bel_alloc1 w _) (own8_empty w) hg (by simp))
  have HO1 := Lib.hid (show Own8 w1 w.heap.size v1 bs by simpa using ho)
  clear ho hg
  go_wp2_with fail
  go_ret
  refine ⟨?_, HB1.out⟩
  obtain ⟨q, c', hv, h1, h2, h3, h4⟩ := own8_src HO1.out
  exact ⟨q, c', by rw [← hv]; rfl, .inl h1, h4, h2, by unfold maxLen at h3; omega⟩
theorem clone_nil (m c : Nat) (bs : List Int) (w : World) (h0 : m = 0) (h1 : c = 0) (h2 : bs = []) :
    Calls Tryd.prog 22 #[.slice none m c] w fun e w' => IsRow w.heap.size bs w' e ∧ Below w.heap.size w w' := by
  subst h0 h1 h2
  have HQ := Lib.hid (show IsRow w.heap.size [] w (.returned (.slice none 0 0)) from ⟨none, 0, rfl, .inl ⟨rfl, .inl ⟨rfl, rfl, rfl⟩⟩, (fun a h => by cases h), Nat.le_refl _, by simp⟩)
  go_enter Tryd.func22, Tryd.ntmps22
  go_wp2_with fail
  go_ret
  exact ⟨HQ.out, Below.refl _ w⟩
theorem clone_any (p : Option Addr) (m c : Nat) (bs : List Int) (w : World) (hz : Hid (SrcW w p m c bs)) (hm : m ≤ 1000000) :
    Calls Tryd.prog 22 #[.slice p m c] w fun e w' => IsRow w.heap.size bs w' e ∧ Below w.heap.size w w' := by
  cases p with
  | some a => exact clone_some a m c bs w hz hm
  | none =>
    rcases hz.out with ⟨h1, ⟨_, h2, h3⟩ | ⟨b, off, h, _⟩⟩ | ⟨h1, h2, h3, a, h⟩
    · exact clone_nil m c bs w h2 h3 (by apply List.eq_nil_of_length_eq_zero; omega)
    · cases h
    · cases h
end Go.Proofs.YtllcgehfmkmcdaaDoor
