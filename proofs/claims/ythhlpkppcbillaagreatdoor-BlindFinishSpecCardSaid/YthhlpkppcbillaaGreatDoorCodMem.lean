/- Lists of atoms as they lie in memory. -/
import Derived.Test.YthhlpkppcbillaaGreatDoorCodWf
import Derived.IntWalk
namespace Go.Proofs.YthhlpkppcbillaaGreatDoor
open Go.RowKit
set_option linter.unusedVariables false

def strB (s : List Int) : ByteArray := ⟨(s.map fun z => UInt8.ofNat z.toNat).toArray⟩
def Atom.kind : Atom → Int
  | .int _ => 1
  | .text _ => 2
def Atom.num : Atom → Int
  | .int n => n
  | .text _ => 0
def Atom.str : Atom → ByteArray
  | .int _ => ⟨#[]⟩
  | .text s => strB s
/-- the atoms lie one behind the other, four cells each -/
def AtomsAt (w : World) (b o : Nat) (l : List Atom) : Prop := ∀ k, k < l.length →
  w.cell? ⟨b, o + k * 4, none⟩ = some (.int .i64 (l.getD k (.int 0)).kind) ∧ w.cell? ⟨b, o + k * 4 + 1, none⟩ = some (.int .i64 (l.getD k (.int 0)).num)
  ∧ w.cell? ⟨b, o + k * 4 + 2, none⟩ = some (.string (l.getD k (.int 0)).str) ∧ w.cell? ⟨b, o + k * 4 + 3, none⟩ = some (.slice none 0 0)
theorem AtomsAt.below {w w' : World} {n b o : Nat} {l : List Atom} (h : AtomsAt w b o l) (k : Below n w w') (hb : b < n) : AtomsAt w' b o l := fun j hj => by
  obtain ⟨c0, c1, c2, c3⟩ := h j hj
  exact ⟨(k.cell hb).trans c0, (k.cell hb).trans c1, (k.cell hb).trans c2, (k.cell hb).trans c3⟩
theorem wf_atom (a : Atom) (w : World) : Calls Tryz.prog 64 #[.agg #[.int .i64 a.kind, .int .i64 a.num, .string a.str, .slice none 0 0]] w fun e w' => e = .returned (.bool true) ∧ Below w.heap.size w w' := by
  cases a with
  | int n => exact wf_int n none 0 w
  | text s => exact wf_text (strB s) none 0 w
set_option maxRecDepth 100000 in
set_option maxHeartbeats 2000000 in
theorem cleanList_any (l : List Atom) (b o n cap : Nat) (w : World) (hn : Hid (n = l.length)) (hm : n ≤ 4611686018427387904) (hb : b < w.heap.size) (hl : Hid (AtomsAt w b o l)) :
    Calls Tryz.prog 80 #[.agg #[.int .i64 3, .int .i64 0, .string ⟨#[]⟩, .slice (some ⟨b, o, none⟩) n cap]] w fun e w' => e = .returned (.bool true) ∧ Below w.heap.size w w' := by
  go_enter Tryz.func80, Tryz.ntmps80
  go_wp2_with fail
  go_loopw [16] (fun i wr => ∃ k : Nat, k ≤ n ∧ i = .int .i64 k ∧ Hid (Below w.heap.size w wr)) (fun i _ => n - (intOf i).toNat)
  case atStart => exact ⟨0, by omega, rfl, Lib.hid (bel_alloc1 w _)⟩
  case round =>
    obtain ⟨k, hk, rfl, HB⟩ := hrel
    by_cases hlt : k < n
    · have hbr : b < wr.heap.size := Nat.lt_of_lt_of_le hb HB.out.size
      obtain ⟨c0, c1, c2, c3⟩ := hl.out.below HB.out hb k (by rw [← hn.out]; exact hlt)
      obtain ⟨at', hx⟩ : ∃ x, l.getD k (.int 0) = x := ⟨_, rfl⟩
      rw [hx] at c0 c1 c2
      have HX := Lib.hid hx; clear hx
      go_wp2_with (go_at_call 64; refine (wf_atom at' _).mono ?_; rintro e u1 ⟨rfl, hbw⟩)
      refine ⟨⟨k + 1, by omega, by simp, Lib.hid (bel_trans HB.out (bel_trans (bel_alloc1 wr _) hbw))⟩, ?_⟩
      simp only [intOf]; omega
    · go_wp2_with fail
      go_ret
      exact ⟨rfl, HB.out⟩
end Go.Proofs.YthhlpkppcbillaaGreatDoor
