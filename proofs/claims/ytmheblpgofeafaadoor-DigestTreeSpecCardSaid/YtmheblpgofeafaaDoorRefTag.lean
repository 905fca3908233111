/- The reference of layer 2: Tagged. -/
import Derived.Test.YtmheblpgofeafaaDoorRefSum
namespace Go.Proofs.YtmheblpgofeafaaDoor
open Go.RowKit
set_option linter.unusedVariables false
set_option linter.unusedSimpArgs false

set_option maxRecDepth 100000 in
set_option maxHeartbeats 2000000 in
theorem rtagged_any (s : ByteArray) (p : Option Addr) (m cap : Nat) (bs : List Int) (w : World) (hz : Hid (SrcW w p m cap bs)) (hr : Hid (∀ z ∈ bs, 0 ≤ z ∧ z ≤ 255)) (hs : s.size ≤ 100000000) (hn : m ≤ 100000000) (ts ds : List Int) (hts : Hid (IsSha (strL s) ts)) (hds : Hid (IsSha (ts ++ bs) ds)) :
    Calls Tryd.prog 17 #[.string s, .slice p m cap] w fun e w' => e = .returned (.agg (bv ds).toArray) ∧ Below w.heap.size w w' := by
  go_enter Tryd.func17, Tryd.ntmps17
  go_upto_region 1 with (fail)
  generalize hW : w.alloc _ = W1
  have T1 := Lib.hid (show Blk W1 w.heap.size (bv (List.replicate 32 0)).toArray 26 by rw [← hW]; exact zeros32 w)
  have B1 := Lib.hid (show Below w.heap.size w W1 by rw [← hW]; exact bel_alloc1 _ _)
  clear hW
  have kc := run_bytes_of_string (P := Tryd.prog) W1 9 22 5 s Tryd.underlying9 Tryd.underlying22 Tryd.underlying5
  have hcl := grownCap_ge W1 s.size 0 5
  have hcu := grownCap_le_maxLen W1 s.size 0 5 (by unfold maxLen; omega)
  have hml : maxLen ≤ 9223372036854775807 := by decide
  generalize grownCap W1 s.size 0 5 = c1 at kc hcl hcu
  go_wp2_with fail
  refine (rsum_any (some ⟨W1.heap.size, 0, none⟩) s.size c1 (strL s) _ (Lib.hid ?e1) (Lib.hid (strL_rng s)) (by omega) ts hts).mono ?_
  case e1 => exact .inl ⟨(strL_len s).symm, .inr ⟨_, 0, rfl, by simp, str_at W1 s c1 _⟩⟩
  rintro e w3 ⟨rfl, hb3⟩
  have T3 := Lib.hid (((T1.out.alloc _).drew).below hb3 (by have := T1.out.lt; simp; omega))
  have B3 := Lib.hid (((B1.out.alloc B1.out.size _).drew).trans (hb3.mono (by have := B1.out.size; simp; omega)))
  clear hb3 kc T1 B1 hcl hcu
  have ht32 : ts.length = 32 := by rw [← hts.out.eq]; exact sha_len _
  have q1 := size32' ts ht32
  have q3 := size32 ts ht32
  have q4 : (w3.alloc (.cells #[.int .u8 0, .int .u8 0, .int .u8 0, .int .u8 0, .int .u8 0, .int .u8 0, .int .u8 0, .int .u8 0, .int .u8 0, .int .u8 0, .int .u8 0, .int .u8 0, .int .u8 0, .int .u8 0, .int .u8 0, .int .u8 0, .int .u8 0, .int .u8 0, .int .u8 0, .int .u8 0, .int .u8 0, .int .u8 0, .int .u8 0, .int .u8 0, .int .u8 0, .int .u8 0, .int .u8 0, .int .u8 0, .int .u8 0, .int .u8 0, .int .u8 0, .int .u8 0] 26)).there w3.heap.size 0 (bv ts).toArray.size := by have := (zeros32 w3).there; simp only [bv_len, List.length_replicate] at this; simp only [List.size_toArray, bv_len, ht32]; exact this
  have q5 := all_oneCell_toArray (bv_one ts)
  go_upto_region 2 with (refine wpList_store_mid rfl 26 _ _ rfl w3.heap.size 0 (bv ts).toArray rfl rfl q4 q3 q5 ?_)
  simp only [Act.put]
  generalize hW4 : World.setCells _ _ _ _ = W4
  have A4 := Lib.hid (show Blk W4 w3.heap.size (bv ts).toArray 26 by rw [← hW4]; exact (zeros32 w3).fill (by rw [bv_len, bv_len, ht32, List.length_replicate]))
  have T4 := Lib.hid (show Blk W4 w.heap.size (bv (List.replicate 32 0)).toArray 26 by rw [← hW4]; exact Blk.others (Nat.ne_of_lt T3.out.lt) _ _ (T3.out.alloc _))
  have B4 := Lib.hid (show Below w.heap.size w W4 by rw [← hW4]; exact setCells_below B3.out.size _ _ (B3.out.alloc B3.out.size _))
  have la := A4.out.lt
  clear hW4 q1 q3 q4 q5 T3 B3
  obtain ⟨ab, hab⟩ : ∃ ab, w3.heap.size = ab := ⟨_, rfl⟩
  rw [hab] at A4 la ⊢
  clear hab
  have H32 := Lib.hid ht32
  have hzl := Lib.hid hz.out.len
  clear ht32
  go_wp2_with (at_builtin; refine app8 rfl (.tmp 9) (.tmp 10) rfl W4.heap.size (.slice (some ⟨W4.heap.size, 0, none⟩) 0 0) [] rfl ?f0 (some ⟨ab, 0, none⟩) 32 32 ts rfl ?f1 ?f2 ?f3 ?_)
  case f0 => exact own8_empty W4
  case f1 => exact ⟨H32.out.symm, .inr ⟨ab, 0, rfl, by simp; omega, (bytes_run A4.out).below (bel_alloc1 _ _) la⟩⟩
  case f2 => have := H32.out; simp; omega
  case f3 => simp
  intro v5 w5 ho hg
  have b5 : Below W4.heap.size W4 w5 := bel_grown8 (bel_alloc1 W4 _) (own8_empty W4) hg (by simp)
  have T5 := Lib.hid (T4.out.below b5 T4.out.lt)
  have B5 := Lib.hid (B4.out.trans (b5.mono B4.out.size))
  have O5 := Lib.hid (show Own8 w5 W4.heap.size v5 ts by simpa using ho)
  have L5 : Hid (W4.heap.size ≤ w5.heap.size) := Lib.hid b5.size
  have L6 : Hid (w.heap.size < W4.heap.size) := Lib.hid T4.out.lt
  clear b5 ho hg T4 B4 A4 la
  go_wp2_with (at_builtin; refine app8w rfl (.tmp 11) (.tmp 12) rfl W4.heap.size v5 ts rfl O5.out p m cap bs rfl (hz.out.below B5.out) ?f4 L5.out ?_)
  case f4 => have := H32.out; have := hzl.out; omega
  intro v6 w6a ho hg
  have b6 : Below W4.heap.size w5 w6a := bel_grown8 (Below.refl _ _) O5.out hg L5.out
  have T5b := Lib.hid (show Blk w6a w.heap.size _ _ from (b6.block _ L6.out).trans T5.out)
  have B5b := Lib.hid (B5.out.trans (b6.mono (Nat.le_of_lt L6.out)))
  obtain ⟨p', c', rfl, hsrc, hc1, hc2, _⟩ := own8_src ho
  have S5 := Lib.hid hsrc
  have HLL : Hid ((ts ++ bs).length ≤ 200000000) := Lib.hid (by rw [List.length_append]; have := H32.out; have := hzl.out; omega)
  clear b6 ho hg hsrc T5 B5 O5 L5 L6 hc1 hc2
  obtain ⟨LL, hLL⟩ : ∃ L, (ts ++ bs).length = L := ⟨_, rfl⟩
  rw [hLL] at S5 HLL ⊢
  clear hLL
  go_wp2_with fail
  refine (rsum_any p' LL c' (ts ++ bs) w6a (Lib.hid (.inl S5.out)) (Lib.hid ?g1) (by have := HLL.out; omega) ds hds).mono ?_
  case g1 =>
    intro z hz
    rcases List.mem_append.1 hz with hz | hz
    · rw [← hts.out.eq] at hz; exact sha_rng _ z hz
    · exact hr.out z hz
  rintro e w6 ⟨rfl, hb6⟩
  have T6 := Lib.hid (T5b.out.below hb6 T5b.out.lt)
  have B6 := Lib.hid (B5b.out.trans (hb6.mono B5b.out.size))
  clear hb6 T5b B5b
  have hd32 : ds.length = 32 := by rw [← hds.out.eq]; exact sha_len _
  have q1 := size32' ds hd32
  have q3 := size32 ds hd32
  have q4 : w6.there w.heap.size 0 (bv ds).toArray.size := by have := T6.out.there; simp only [bv_len, List.length_replicate] at this; simp only [List.size_toArray, bv_len, hd32]; exact this
  have q5 := all_oneCell_toArray (bv_one ds)
  have HD := Lib.hid hd32
  clear hd32
  go_wp2_with (refine wpList_store_mid rfl 26 _ _ rfl w.heap.size 0 (bv ds).toArray rfl rfl q4 q3 q5 ?_)
  refine bodyPost_ret (v := .agg (bv ds).toArray) (results_cell1 (a := ⟨w.heap.size, 0, none⟩) rfl _ rfl (run_loadVar_mid _ w.heap.size 0 _ (bv ds) _ (T6.out.fill (by rw [bv_len, bv_len, List.length_replicate, HD.out])).range Tryd.underlying26 rfl q1)) rfl ⟨rfl, setCells_below (Nat.le_refl _) _ _ B6.out⟩
end Go.Proofs.YtmheblpgofeafaaDoor
