/- The node of two digests, and the end of a chain, in the reference: frankingref02.node, Chain. -/
import Derived.Test.YtmheblpgofeafaaDoorDigApp2
import Derived.Test.YtmheblpgofeafaaDoorDigTree
import Derived.Test.YtmheblpgofeafaaDoorRefTag
namespace Go.Proofs.YtmheblpgofeafaaDoor
open Go.RowKit
set_option linter.unusedVariables false
set_option linter.unusedSimpArgs false

set_option maxRecDepth 100000 in
set_option maxHeartbeats 2000000 in
theorem rnode_any (xs ys ds : List Int) (w : World) (hx : Hid (xs.length = 32)) (hy : Hid (ys.length = 32)) (rx : Hid (∀ z ∈ xs, 0 ≤ z ∧ z ≤ 255)) (ry : Hid (∀ z ∈ ys, 0 ≤ z ∧ z ≤ 255)) (hds : Hid (IsTag (strL sNode) (xs ++ ys) ds)) :
    Calls Tryd.prog 45 #[.agg (bv xs).toArray, .agg (bv ys).toArray] w fun e w' => e = .returned (.agg (bv ds).toArray) ∧ Below w.heap.size w w' := by
  go_enter Tryd.func45, Tryd.ntmps45
  go_upto_region 1 with (fail)
  generalize hW : World.alloc _ _ = W1
  have X1 := Lib.hid (show Blk W1 w.heap.size (bv xs).toArray 26 by rw [← hW]; exact ((Blk.new w _ _).alloc _).alloc _)
  have Y1 := Lib.hid (show Blk W1 (w.heap.size + 1) (bv ys).toArray 26 by rw [← hW]; have := Blk.new (w.alloc (.cells (bv xs).toArray 26)) (bv ys).toArray 26; rw [alloc_sz] at this; exact this.alloc _)
  have T1 := Lib.hid (show Blk W1 (w.heap.size + 1 + 1) (bv (List.replicate 32 0)).toArray 26 by rw [← hW]; have := zeros32 ((w.alloc (.cells (bv xs).toArray 26)).alloc (.cells (bv ys).toArray 26)); rw [alloc_sz, alloc_sz] at this; exact this)
  have B1 := Lib.hid (show Below w.heap.size w W1 by rw [← hW]; exact (((bel_alloc1 w _).alloc (by simp) _).alloc (by simp; omega) _))
  clear hW
  obtain ⟨xb, hxb⟩ : ∃ b, w.heap.size = b := ⟨_, rfl⟩
  have hB : w.heap.size ≤ xb := by omega
  have B2 : Hid (Below w.heap.size w W1) := B1
  rw [hxb] at X1 Y1 T1 ⊢
  clear hxb B1
  obtain ⟨ts, hts, hss⟩ := hds.out
  have HTS := Lib.hid hts
  have HSS := Lib.hid hss
  clear hts hss
  refine wp_region_any (by kernel_rfl) ?_
  change wpAny _ _ _ _ _ _ _ (World.drew _)
  generalize hWD : W1.drew = WD
  have X2 := Lib.hid (show Blk WD _ _ _ by rw [← hWD]; exact X1.out.drew)
  have Y2 := Lib.hid (show Blk WD _ _ _ by rw [← hWD]; exact Y1.out.drew)
  have T2 := Lib.hid (show Blk WD _ _ _ by rw [← hWD]; exact T1.out.drew)
  have B3 := Lib.hid (show Below w.heap.size w WD by rw [← hWD]; exact B2.out.drew)
  clear hWD X1 Y1 T1 B2
  refine wpAny_take (i := 1) (v := .slice (some ⟨xb, 0, none⟩) 32 32) rfl (by kernel_rfl) (by kernel_rfl) (by kernel_rfl) (fun _ _ _ h => h) (Or.inl ⟨by rfl, ?y1⟩) ?_
  case y1 => intro u; go_simp
  refine wpAny_take (i := 3) (v := .slice (some ⟨xb + 1, 0, none⟩) 32 32) rfl (by kernel_rfl) (by kernel_rfl) (by kernel_rfl) (fun _ _ _ h => h) (Or.inl ⟨by rfl, ?y3⟩) ?_
  case y3 => intro u; go_simp
  refine any_prefix [0] 4 rfl (by decide) (by kernel_rfl) ?_
  simp only [Act.put, List.filterMap_cons, List.filterMap_nil, List.getElem?_cons_succ, List.getElem?_cons_zero]
  go_wp2_with fail
  change wpAny _ _ _ _ 4 _ _ _
  generalize hW_ : World.alloc _ _ = W2
  have E2 := Lib.hid (show Blk W2 WD.heap.size #[] 5 by rw [← hW_]; exact Blk.new WD _ _)
  have X3 := Lib.hid (show Blk W2 _ _ _ by rw [← hW_]; exact X2.out.alloc _)
  have Y3 := Lib.hid (show Blk W2 _ _ _ by rw [← hW_]; exact Y2.out.alloc _)
  have T3 := Lib.hid (show Blk W2 _ _ _ by rw [← hW_]; exact T2.out.alloc _)
  have B4 := Lib.hid (show Below w.heap.size w W2 by rw [← hW_]; exact B3.out.alloc B3.out.size _)
  have ly := Y2.out.lt
  have lt := T2.out.lt
  have lw := B3.out.size
  clear hW_ X2 Y2 T2 B3
  refine any_order [2, 4, 5, 6] rfl (by decide) (by kernel_rfl) ?_
  simp only [Act.put, List.filterMap_cons, List.filterMap_nil, List.getElem?_cons_succ, List.getElem?_cons_zero]
  refine app8_two (.tmp 5) (.tmp 6) (.tmp 8) 7 rfl rfl (fun _ => rfl) rfl rfl WD.heap.size xb (xb + 1) rfl E2.out rfl (fun _ => rfl) (fun _ => rfl) xs ys hx.out hy.out ly (bytes_run X3.out) (bytes_run Y3.out) ?_
  intro v p c u hs hc hm hb
  have HS := Lib.hid hs
  have T5 := Lib.hid (T3.out.below hb lt)
  have B5 := Lib.hid (B4.out.trans (hb.mono lw))
  clear hs hb E2 X3 Y3 T3 B4
  have hml : maxLen ≤ 9223372036854775807 := by decide
  simp only [Act.put]
  go_wp2_with fail
  refine (rtagged_any _ p 64 c (xs ++ ys) u (Lib.hid (.inl HS.out)) (Lib.hid (rng_append rx.out ry.out)) (by decide) (by omega) ts ds HTS HSS).mono ?_
  rintro e w6 ⟨rfl, hb6⟩
  have T6 := Lib.hid (T5.out.below hb6 T5.out.lt)
  have B6 := Lib.hid (B5.out.trans (hb6.mono B5.out.size))
  clear hb6 T5 B5
  have hd32 : ds.length = 32 := hds.out.len
  have q1 := size32' ds hd32
  have q3 := size32 ds hd32
  have q4 : w6.there (xb + 1 + 1) 0 (bv ds).toArray.size := by have := T6.out.there; simp only [bv_len, List.length_replicate] at this; simp only [List.size_toArray, bv_len, hd32]; exact this
  have q5 := all_oneCell_toArray (bv_one ds)
  have HD := Lib.hid hd32
  clear hd32
  rename_i KK hKK
  refine hKK _ _ ?_
  refine wpList_store_mid rfl 26 (.tmp 4) (.tmp 10) rfl (xb + 1 + 1) 0 (bv ds).toArray rfl rfl q4 q3 q5 ?_
  go_wp2_with fail
  refine bodyPost_ret (v := .agg (bv ds).toArray) (results_cell1 (a := ⟨xb + 1 + 1, 0, none⟩) rfl _ rfl (run_loadVar_mid _ (xb + 1 + 1) 0 _ (bv ds) _ (T6.out.fill (by rw [bv_len, bv_len, List.length_replicate, HD.out])).range Tryd.underlying26 rfl q1)) rfl ⟨rfl, setCells_below (by omega) _ _ B6.out⟩
set_option maxRecDepth 100000 in
set_option maxHeartbeats 2000000 in
theorem rchain_any (xs ys ds : List Int) (w : World) (hx : Hid (xs.length = 32)) (hy : Hid (ys.length = 32)) (rx : Hid (∀ z ∈ xs, 0 ≤ z ∧ z ≤ 255)) (ry : Hid (∀ z ∈ ys, 0 ≤ z ∧ z ≤ 255)) (hds : Hid (IsTag (strL ⟨#[99, 104, 97, 105, 110]⟩) (xs ++ ys) ds)) :
    Calls Tryd.prog 28 #[.agg (bv xs).toArray, .agg (bv ys).toArray] w fun e w' => e = .returned (.agg (bv ds).toArray) ∧ Below w.heap.size w w' := by
  go_enter Tryd.func28, Tryd.ntmps28
  go_upto_region 1 with (fail)
  generalize hW : World.alloc _ _ = W1
  have X1 := Lib.hid (show Blk W1 w.heap.size (bv xs).toArray 26 by rw [← hW]; exact ((Blk.new w _ _).alloc _).alloc _)
  have Y1 := Lib.hid (show Blk W1 (w.heap.size + 1) (bv ys).toArray 26 by rw [← hW]; have := Blk.new (w.alloc (.cells (bv xs).toArray 26)) (bv ys).toArray 26; rw [alloc_sz] at this; exact this.alloc _)
  have T1 := Lib.hid (show Blk W1 (w.heap.size + 1 + 1) (bv (List.replicate 32 0)).toArray 26 by rw [← hW]; have := zeros32 ((w.alloc (.cells (bv xs).toArray 26)).alloc (.cells (bv ys).toArray 26)); rw [alloc_sz, alloc_sz] at this; exact this)
  have B1 := Lib.hid (show Below w.heap.size w W1 by rw [← hW]; exact (((bel_alloc1 w _).alloc (by simp) _).alloc (by simp; omega) _))
  clear hW
  obtain ⟨xb, hxb⟩ : ∃ b, w.heap.size = b := ⟨_, rfl⟩
  have hB : w.heap.size ≤ xb := by omega
  have B2 : Hid (Below w.heap.size w W1) := B1
  rw [hxb] at X1 Y1 T1 ⊢
  clear hxb B1
  obtain ⟨ts, hts, hss⟩ := hds.out
  have HTS := Lib.hid hts
  have HSS := Lib.hid hss
  clear hts hss
  refine wp_region_any (by kernel_rfl) ?_
  change wpAny _ _ _ _ _ _ _ (World.drew _)
  generalize hWD : W1.drew = WD
  have X2 := Lib.hid (show Blk WD _ _ _ by rw [← hWD]; exact X1.out.drew)
  have Y2 := Lib.hid (show Blk WD _ _ _ by rw [← hWD]; exact Y1.out.drew)
  have T2 := Lib.hid (show Blk WD _ _ _ by rw [← hWD]; exact T1.out.drew)
  have B3 := Lib.hid (show Below w.heap.size w WD by rw [← hWD]; exact B2.out.drew)
  clear hWD X1 Y1 T1 B2
  refine wpAny_take (i := 1) (v := .slice (some ⟨xb, 0, none⟩) 32 32) rfl (by kernel_rfl) (by kernel_rfl) (by kernel_rfl) (fun _ _ _ h => h) (Or.inl ⟨by rfl, ?y1⟩) ?_
  case y1 => intro u; go_simp
  refine wpAny_take (i := 3) (v := .slice (some ⟨xb + 1, 0, none⟩) 32 32) rfl (by kernel_rfl) (by kernel_rfl) (by kernel_rfl) (fun _ _ _ h => h) (Or.inl ⟨by rfl, ?y3⟩) ?_
  case y3 => intro u; go_simp
  refine any_prefix [0] 4 rfl (by decide) (by kernel_rfl) ?_
  simp only [Act.put, List.filterMap_cons, List.filterMap_nil, List.getElem?_cons_succ, List.getElem?_cons_zero]
  go_wp2_with fail
  change wpAny _ _ _ _ 4 _ _ _
  generalize hW_ : World.alloc _ _ = W2
  have E2 := Lib.hid (show Blk W2 WD.heap.size #[] 5 by rw [← hW_]; exact Blk.new WD _ _)
  have X3 := Lib.hid (show Blk W2 _ _ _ by rw [← hW_]; exact X2.out.alloc _)
  have Y3 := Lib.hid (show Blk W2 _ _ _ by rw [← hW_]; exact Y2.out.alloc _)
  have T3 := Lib.hid (show Blk W2 _ _ _ by rw [← hW_]; exact T2.out.alloc _)
  have B4 := Lib.hid (show Below w.heap.size w W2 by rw [← hW_]; exact B3.out.alloc B3.out.size _)
  have ly := Y2.out.lt
  have lt := T2.out.lt
  have lw := B3.out.size
  clear hW_ X2 Y2 T2 B3
  refine any_order [2, 4, 5, 6] rfl (by decide) (by kernel_rfl) ?_
  simp only [Act.put, List.filterMap_cons, List.filterMap_nil, List.getElem?_cons_succ, List.getElem?_cons_zero]
  refine app8_two (.tmp 5) (.tmp 6) (.tmp 8) 7 rfl rfl (fun _ => rfl) rfl rfl WD.heap.size xb (xb + 1) rfl E2.out rfl (fun _ => rfl) (fun _ => rfl) xs ys hx.out hy.out ly (bytes_run X3.out) (bytes_run Y3.out) ?_
  intro v p c u hs hc hm hb
  have HS := Lib.hid hs
  have T5 := Lib.hid (T3.out.below hb lt)
  have B5 := Lib.hid (B4.out.trans (hb.mono lw))
  clear hs hb E2 X3 Y3 T3 B4
  have hml : maxLen ≤ 9223372036854775807 := by decide
  simp only [Act.put]
  go_wp2_with fail
  refine (rtagged_any _ p 64 c (xs ++ ys) u (Lib.hid (.inl HS.out)) (Lib.hid (rng_append rx.out ry.out)) (by decide) (by omega) ts ds HTS HSS).mono ?_
  rintro e w6 ⟨rfl, hb6⟩
  have T6 := Lib.hid (T5.out.below hb6 T5.out.lt)
  have B6 := Lib.hid (B5.out.trans (hb6.mono B5.out.size))
  clear hb6 T5 B5
  have hd32 : ds.length = 32 := hds.out.len
  have q1 := size32' ds hd32
  have q3 := size32 ds hd32
  have q4 : w6.there (xb + 1 + 1) 0 (bv ds).toArray.size := by have := T6.out.there; simp only [bv_len, List.length_replicate] at this; simp only [List.size_toArray, bv_len, hd32]; exact this
  have q5 := all_oneCell_toArray (bv_one ds)
  have HD := Lib.hid hd32
  clear hd32
  rename_i KK hKK
  refine hKK _ _ ?_
  refine wpList_store_mid rfl 26 (.tmp 4) (.tmp 10) rfl (xb + 1 + 1) 0 (bv ds).toArray rfl rfl q4 q3 q5 ?_
  go_wp2_with fail
  refine bodyPost_ret (v := .agg (bv ds).toArray) (results_cell1 (a := ⟨xb + 1 + 1, 0, none⟩) rfl _ rfl (run_loadVar_mid _ (xb + 1 + 1) 0 _ (bv ds) _ (T6.out.fill (by rw [bv_len, bv_len, List.length_replicate, HD.out])).range Tryd.underlying26 rfl q1)) rfl ⟨rfl, setCells_below (by omega) _ _ B6.out⟩
end Go.Proofs.YtmheblpgofeafaaDoor
