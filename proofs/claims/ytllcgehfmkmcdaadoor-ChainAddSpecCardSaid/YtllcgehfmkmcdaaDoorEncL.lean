/- The length of what encodes a list of atoms, and its bytes. -/
import Derived.Test.YtllcgehfmkmcdaaDoorCodZ
namespace Go.Proofs.YtllcgehfmkmcdaaDoor
open Go.RowKit
set_option linter.unusedVariables false
set_option linter.unusedSimpArgs false

theorem encL_rng {l : List Atom} (hok : ∀ a ∈ l, a.ok) : ∀ z ∈ encL l, 0 ≤ z ∧ z ≤ 255 := by
  intro z hz
  unfold encL at hz
  rcases List.mem_cons.1 hz with rfl | hz
  · omega
  rcases List.mem_append.1 hz with hz | hz
  · exact numL_rng _ z hz
  rw [List.mem_flatten] at hz
  obtain ⟨r, hr, hz⟩ := hz
  rw [List.mem_map] at hr
  obtain ⟨a, ha, rfl⟩ := hr
  have hk := hok a ha
  cases a with
  | int n =>
    rcases List.mem_cons.1 hz with rfl | hz
    · omega
    · exact numL_rng _ z hz
  | text s =>
    rcases List.mem_cons.1 hz with rfl | hz
    · omega
    rcases List.mem_append.1 hz with hz | hz
    · exact numL_rng _ z hz
    · exact hk.2 z hz
theorem encs_len : ∀ {l : List Atom}, (∀ a ∈ l, a.ok) → ((l.map Atom.enc).flatten).length ≤ lenA l
  | [], _ => by simp
  | a :: l, h => by
    have h1 := enc_len (h a List.mem_cons_self)
    have h2 := encs_len (fun b hb => h b (List.mem_cons_of_mem _ hb))
    rw [List.map_cons, List.flatten_cons, List.length_append, lenA_cons]; omega
theorem encL_len {l : List Atom} (hok : ∀ a ∈ l, a.ok) (hl : l.length ≤ 1000) : (encL l).length ≤ 20 + lenA l := by
  have h1 := numL_len l.length 9 (by simp; omega) (by omega)
  have h2 := encs_len hok
  unfold encL
  rw [List.length_cons, List.length_append]; omega
end Go.Proofs.YtllcgehfmkmcdaaDoor
