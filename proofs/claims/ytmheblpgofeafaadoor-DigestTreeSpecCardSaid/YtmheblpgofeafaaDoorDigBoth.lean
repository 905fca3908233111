/- The digest of two digests under a tag: digest.both; digest.Chain. -/
import Derived.Test.YtmheblpgofeafaaDoorDigTag
import Derived.Test.YtmheblpgofeafaaDoorQuietIn
import Derived.Test.YtmheblpgofeafaaDoorRegStep
namespace Go.Proofs.YtmheblpgofeafaaDoor
open Go.RowKit
set_option linter.unusedVariables false
set_option linter.unusedSimpArgs false

/-- the hash under a tag -/
def IsTag (tag bs ds : List Int) : Prop := ∃ ts, IsSha tag ts ∧ IsSha (ts ++ bs) ds
theorem IsTag.len {tag bs ds : List Int} (h : IsTag tag bs ds) : ds.length = 32 := by
  obtain ⟨ts, _, h2⟩ := h
  rw [← h2.eq]; exact sha_len _
theorem IsTag.rng {tag bs ds : List Int} (h : IsTag tag bs ds) : ∀ z ∈ ds, 0 ≤ z ∧ z ≤ 255 := by
  obtain ⟨ts, _, h2⟩ := h
  rw [← h2.eq]; exact sha_rng _
theorem isTag_ex (tag bs : List Int) : ∃ ds, IsTag tag bs ds := ⟨_, _, ⟨rfl⟩, ⟨rfl⟩⟩
theorem alloc_sz (w : World) (o : Obj) : (w.alloc o).heap.size = w.heap.size + 1 := by simp
theorem rng_append {xs ys : List Int} (hx : ∀ z ∈ xs, 0 ≤ z ∧ z ≤ 255) (hy : ∀ z ∈ ys, 0 ≤ z ∧ z ≤ 255) : ∀ z ∈ xs ++ ys, 0 ≤ z ∧ z ≤ 255 := by
  intro z hz
  rcases List.mem_append.1 hz with hz | hz
  · exact hx z hz
  · exact hy z hz

set_option maxRecDepth 100000 in
set_option maxHeartbeats 2000000 in
theorem both_any (s : ByteArray) (xs ys ds : List Int) (w : World) (hx : Hid (xs.length = 32)) (hy : Hid (ys.length = 32)) (rx : Hid (∀ z ∈ xs, 0 ≤ z ∧ z ≤ 255)) (ry : Hid (∀ z ∈ ys, 0 ≤ z ∧ z ≤ 255)) (hs : s.size ≤ 100000000) (hk : Hid (KeysAt w)) (hds : Hid (IsTag (strL s) (xs ++ ys) ds)) :
    Calls Tryd.prog 43 #[.string s, .agg (bv xs).toArray, .agg (bv ys).toArray] w fun e w' => e = .returned (.agg (bv ds).toArray) ∧ Below w.heap.size w w' := by
  go_enter Tryd.func43, Tryd.ntmps43
  go_upto_region 1 with (fail)
  generalize hW : World.alloc _ _ = W1
  have X1 := Lib.hid (show Blk W1 w.heap.size (bv xs).toArray 26 by rw [← hW]; exact ((Blk.new w _ _).alloc _).alloc _)
  have Y1 := Lib.hid (show Blk W1 (w.heap.size + 1) (bv ys).toArray 26 by rw [← hW]; have := Blk.new (w.alloc (.cells (bv xs).toArray 26)) (bv ys).toArray 26; rw [alloc_sz] at this; exact this.alloc _)
  have T1 := Lib.hid (show Blk W1 (w.heap.size + 1 + 1) (bv (List.replicate 32 0)).toArray 26 by rw [← hW]; have := zeros32 ((w.alloc (.cells (bv xs).toArray 26)).alloc (.cells (bv ys).toArray 26)); rw [alloc_sz, alloc_sz] at this; exact this)
  have B1 := Lib.hid (show Below w.heap.size w W1 by rw [← hW]; exact (((bel_alloc1 w _).alloc (by simp) _).alloc (by simp; omega) _))
  clear hW
  obtain ⟨xb, hxb⟩ : ∃ b, w.heap.size = b := ⟨_, rfl⟩
  have hB : w.heap.size ≤ xb := by omega
  have B2 : Hid (Below w.heap.size w W1) := B1
  rw [hxb] at X1 Y1 T1 ⊢
  clear hxb B1
  refine wp_region_any (by kernel_rfl) ?_
  change wpAny _ _ _ _ _ _ _ (World.drew _)
  refine wpAny_take (i := 0) (v := ?v0) rfl (by kernel_rfl) (by kernel_rfl) (by kernel_rfl) (fun _ _ _ h => h) (Or.inl ⟨by rfl, ?y0⟩) ?_
  case y0 => intro u; rfl
  refine wpAny_take (i := 1) (v := .slice (some ⟨xb, 0, none⟩) 32 32) rfl (by kernel_rfl) (by kernel_rfl) (by kernel_rfl) (fun _ _ _ h => h) (Or.inl ⟨by rfl, ?y1⟩) ?_
  case y1 => intro u; go_simp
  refine wpAny_take (i := 2) (v := .slice (some ⟨xb + 1, 0, none⟩) 32 32) rfl (by kernel_rfl) (by kernel_rfl) (by kernel_rfl) (fun _ _ _ h => h) (Or.inl ⟨by rfl, ?y2⟩) ?_
  case y2 => intro u; go_simp
  refine any_seq_drop 3 3 rfl (by kernel_rfl) ?_
  simp only [List.drop_succ_cons, List.drop_zero, Act.put]
  have lx := X1.out.lt
  have HX := Lib.hid (bytes_run X1.out)
  go_wp2_with (at_builtin; go_loud (refine appFull rfl (.tmp 8) (.tmp 9) rfl xb 32 xs rfl lx (show BytesAt W1.drew xb 0 xs from HX.out) hx.out (some ⟨xb + 1, 0, none⟩) 32 32 ys rfl (.inl ⟨hy.out.symm, .inr ⟨xb + 1, 0, rfl, Y1.out.lt, (show BytesAt W1.drew (xb + 1) 0 ys from bytes_run Y1.out)⟩⟩) ?f1 ?_))
  case f1 => have := hx.out; have := hy.out; omega
  intro p' c' w5 hsrc hc1 hc2 hb5
  have T5 := Lib.hid (T1.out.drew.below hb5 T1.out.lt)
  have B5 := Lib.hid (B2.out.drew.trans (hb5.mono B2.out.size))
  have S5 := Lib.hid hsrc
  clear hb5 hsrc T1 B2 lx HX X1 Y1
  have hml : maxLen ≤ 9223372036854775807 := by decide
  obtain ⟨ts, hts, hss⟩ := hds.out
  go_wp2_with fail
  refine (tagged_any s p' 64 c' (xs ++ ys) w5 (Lib.hid (.inl S5.out)) (Lib.hid (rng_append rx.out ry.out)) hs (by omega) (Lib.hid (hk.out.below B5.out)) ts ds (Lib.hid hts) (Lib.hid hss)).mono ?_
  rintro e w6 ⟨rfl, hb6⟩
  have T6 := Lib.hid (T5.out.below hb6 T5.out.lt)
  have B6 := Lib.hid (B5.out.trans (hb6.mono B5.out.size))
  clear hb6 T5 B5 hts hss
  have hd32 : ds.length = 32 := hds.out.len
  have q1 := size32' ds hd32
  have q3 := size32 ds hd32
  have q4 : w6.there (xb + 1 + 1) 0 (bv ds).toArray.size := by have := T6.out.there; simp only [bv_len, List.length_replicate] at this; simp only [List.size_toArray, bv_len, hd32]; exact this
  have q5 := all_oneCell_toArray (bv_one ds)
  have HD := Lib.hid hd32
  clear hd32
  go_wp2_with (refine wpList_store_mid rfl 26 _ _ rfl (xb + 1 + 1) 0 (bv ds).toArray rfl rfl q4 q3 q5 ?_)
  refine bodyPost_ret (v := .agg (bv ds).toArray) (results_cell1 (a := ⟨xb + 1 + 1, 0, none⟩) rfl _ rfl (run_loadVar_mid _ (xb + 1 + 1) 0 _ (bv ds) _ (T6.out.fill (by rw [bv_len, bv_len, List.length_replicate, HD.out])).range Tryd.underlying26 rfl q1)) rfl ⟨rfl, setCells_below (by omega) _ _ B6.out⟩

set_option maxRecDepth 100000 in
set_option maxHeartbeats 2000000 in
theorem chain_any (xs ys ds : List Int) (w : World) (hx : Hid (xs.length = 32)) (hy : Hid (ys.length = 32)) (rx : Hid (∀ z ∈ xs, 0 ≤ z ∧ z ≤ 255)) (ry : Hid (∀ z ∈ ys, 0 ≤ z ∧ z ≤ 255)) (hk : Hid (KeysAt w)) (hds : Hid (IsTag (strL ⟨#[99, 104, 97, 105, 110]⟩) (xs ++ ys) ds)) :
    Calls Tryd.prog 27 #[.agg (bv xs).toArray, .agg (bv ys).toArray] w fun e w' => e = .returned (.agg (bv ds).toArray) ∧ Below w.heap.size w w' := by
  go_enter Tryd.func27, Tryd.ntmps27
  go_upto_region 1 with (fail)
  generalize hW : World.alloc _ _ = W1
  have X1 := Lib.hid (show Blk W1 w.heap.size (bv xs).toArray 26 by rw [← hW]; exact ((Blk.new w _ _).alloc _).alloc _)
  have Y1 := Lib.hid (show Blk W1 (w.heap.size + 1) (bv ys).toArray 26 by rw [← hW]; have := Blk.new (w.alloc (.cells (bv xs).toArray 26)) (bv ys).toArray 26; rw [alloc_sz] at this; exact this.alloc _)
  have T1 := Lib.hid (show Blk W1 (w.heap.size + 1 + 1) (bv (List.replicate 32 0)).toArray 26 by rw [← hW]; have := zeros32 ((w.alloc (.cells (bv xs).toArray 26)).alloc (.cells (bv ys).toArray 26)); rw [alloc_sz, alloc_sz] at this; exact this)
  have B1 := Lib.hid (show Below w.heap.size w W1 by rw [← hW]; exact (((bel_alloc1 w _).alloc (by simp) _).alloc (by simp; omega) _))
  clear hW
  obtain ⟨xb, hxb⟩ : ∃ b, w.heap.size = b := ⟨_, rfl⟩
  have hB : w.heap.size ≤ xb := by omega
  have B2 : Hid (Below w.heap.size w W1) := B1
  rw [hxb] at X1 Y1 T1 ⊢
  clear hxb B1
  have u := Tryd.underlying26
  have qx := size32' xs hx.out
  have qy := size32' ys hy.out
  go_wp2_with (first
    | (refine wpList_load_mid rfl 26 (.tmp 2) rfl xb 0 rfl (bv xs) _ X1.out.range u rfl qx ?_)
    | (refine wpList_load_mid rfl 26 (.tmp 3) rfl (xb + 1) 0 rfl (bv ys) _ Y1.out.range u rfl qy ?_))
  refine (both_any _ xs ys ds W1 hx hy rx ry (by decide) (Lib.hid (hk.out.below B2.out)) hds).mono ?_
  rintro e w6 ⟨rfl, hb6⟩
  have T6 := Lib.hid (T1.out.below hb6 T1.out.lt)
  have B6 := Lib.hid (B2.out.trans (hb6.mono B2.out.size))
  clear hb6 T1 B2 X1 Y1 qx qy
  have hd32 : ds.length = 32 := hds.out.len
  have q1 := size32' ds hd32
  have q3 := size32 ds hd32
  have q4 : w6.there (xb + 1 + 1) 0 (bv ds).toArray.size := by have := T6.out.there; simp only [bv_len, List.length_replicate] at this; simp only [List.size_toArray, bv_len, hd32]; exact this
  have q5 := all_oneCell_toArray (bv_one ds)
  have HD := Lib.hid hd32
  clear hd32
  go_wp2_with (refine wpList_store_mid rfl 26 _ _ rfl (xb + 1 + 1) 0 (bv ds).toArray rfl rfl q4 q3 q5 ?_)
  refine bodyPost_ret (v := .agg (bv ds).toArray) (results_cell1 (a := ⟨xb + 1 + 1, 0, none⟩) rfl _ rfl (run_loadVar_mid _ (xb + 1 + 1) 0 _ (bv ds) _ (T6.out.fill (by rw [bv_len, bv_len, List.length_replicate, HD.out])).range Tryd.underlying26 rfl q1)) rfl ⟨rfl, setCells_below (by omega) _ _ B6.out⟩
end Go.Proofs.YtmheblpgofeafaaDoor
