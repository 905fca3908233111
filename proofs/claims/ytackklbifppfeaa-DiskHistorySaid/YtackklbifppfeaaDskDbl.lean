/- double: a sector both halves of which begin with a byte. -/
import Derived.Test.YtackklbifppfeaaDskNew
namespace Go.Proofs.Ytackklbifppfeaa
open Go.RowKit
set_option linter.unusedVariables false
set_option linter.unusedSimpArgs false

def dbl (c : Int) : List Int := ((List.replicate 128 0).set 0 c).set 64 c
theorem dbl_len (c : Int) : (dbl c).length = 128 := by unfold dbl; rw [List.length_set, List.length_set, List.length_replicate]
theorem dbl_eq (c : Int) : (zb.set 0 (.int .u8 c)).set 64 (.int .u8 c) = bv (dbl c) := by
  unfold zb bv dbl
  rw [List.map_set, List.map_set]
theorem zb_get (j : Nat) (h : j < 128) : zb[j]? = some (.int .u8 0) := by
  unfold zb bv
  rw [List.getElem?_map, List.getElem?_replicate, if_pos h]; rfl
set_option maxRecDepth 100000 in
theorem double_any (c : Int) (w : World) :
    Calls Try.prog 27 #[.int .u8 c] w
      fun e w' => e = .returned (.slice (some ⟨w.heap.size, 0, none⟩) 128 128) ∧ Below w.heap.size w w' ∧ Blk w' w.heap.size (bv (dbl c)).toArray 5 := by
  have MK := run_makeZ w
  have z0 := zb_get 0 (by omega)
  have z64 := zb_get 64 (by omega)
  have HB := fun o => Lib.hid (bel_alloc1 w o)
  have HD := Lib.hid (Blk.new w ((zb.set 0 (.int .u8 c)).set 64 (.int .u8 c)).toArray 5)
  have HE := Lib.hid (dbl_eq c)
  go_enter Try.func27, Try.ntmps27
  go_wp2_with fail
  go_ret
  exact ⟨rfl, (HB _).out, by rw [← HE.out]; exact HD.out⟩
end Go.Proofs.Ytackklbifppfeaa
