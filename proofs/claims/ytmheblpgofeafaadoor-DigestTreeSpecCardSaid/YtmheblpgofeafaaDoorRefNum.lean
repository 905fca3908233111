/- The numbers K of the reference. -/
import Derived.Test.YtmheblpgofeafaaDoorDigSum
namespace Go.Proofs.YtmheblpgofeafaaDoor
open Go.RowKit
set_option linter.unusedVariables false
set_option linter.unusedSimpArgs false

theorem size64' (zs : List Int) (h : zs.length = 64) : (Tryd.prog.info? 70).map (·.size) = some (wv zs).length := by
  rw [wv_len, h]; kernel_rfl
set_option maxRecDepth 100000 in
set_option maxHeartbeats 1000000 in
theorem rnumbers_any (w : World) : Calls Tryd.prog 60 #[] w fun e w' => e = .returned (.agg (wv kK).toArray) ∧ Below w.heap.size w w' := by
  have hlit : [.int .u32 1116352408, .int .u32 1899447441, .int .u32 3049323471, .int .u32 3921009573, .int .u32 961987163, .int .u32 1508970993, .int .u32 2453635748, .int .u32 2870763221, .int .u32 3624381080, .int .u32 310598401, .int .u32 607225278, .int .u32 1426881987, .int .u32 1925078388, .int .u32 2162078206, .int .u32 2614888103, .int .u32 3248222580, .int .u32 3835390401, .int .u32 4022224774, .int .u32 264347078, .int .u32 604807628, .int .u32 770255983, .int .u32 1249150122, .int .u32 1555081692, .int .u32 1996064986, .int .u32 2554220882, .int .u32 2821834349, .int .u32 2952996808, .int .u32 3210313671, .int .u32 3336571891, .int .u32 3584528711, .int .u32 113926993, .int .u32 338241895, .int .u32 666307205, .int .u32 773529912, .int .u32 1294757372, .int .u32 1396182291, .int .u32 1695183700, .int .u32 1986661051, .int .u32 2177026350, .int .u32 2456956037, .int .u32 2730485921, .int .u32 2820302411, .int .u32 3259730800, .int .u32 3345764771, .int .u32 3516065817, .int .u32 3600352804, .int .u32 4094571909, .int .u32 275423344, .int .u32 430227734, .int .u32 506948616, .int .u32 659060556, .int .u32 883997877, .int .u32 958139571, .int .u32 1322822218, .int .u32 1537002063, .int .u32 1747873779, .int .u32 1955562222, .int .u32 2024104815, .int .u32 2227730452, .int .u32 2361852424, .int .u32 2428436474, .int .u32 2756734187, .int .u32 3204031479, .int .u32 3329325298] = wv kK := rfl
  have hkl : kK.length = 64 := rfl
  generalize kK = ks at hlit hkl ⊢
  have q1 := there64 w ks hkl
  have q2 := size64 ks hkl
  have q3 := all_oneCell_toArray (wv_one ks)
  have HL := Lib.hid hlit
  clear hlit
  go_enter Tryd.func60, Tryd.ntmps60
  go_upto_region 1 with (fail)
  go_wp2_with (refine wpList_store_mid rfl 70 (.tmp 0) (.tmp 1) rfl w.heap.size 0 (wv ks).toArray rfl ?hy q1 q2 q3 ?_)
  case hy => exact HL.out
  clear HL
  go_wp2_with fail
  refine bodyPost_ret (v := .agg (wv ks).toArray) (results_cell1 (a := ⟨w.heap.size, 0, none⟩) rfl _ rfl (run_loadVar_mid _ w.heap.size 0 _ (wv ks) _ ?_ Tryd.underlying70 rfl (size64' ks hkl))) rfl ⟨rfl, setCells_below (Nat.le_refl _) _ _ (bel_alloc1 _ _)⟩
  exact ((zeros64 w).fill (by rw [wv_len, wv_len, hkl, List.length_replicate])).range
end Go.Proofs.YtmheblpgofeafaaDoor
