/- The hash under a tag: digest.Tagged. -/
import Derived.Test.YtllcgehfmkmcdaaDoorDigSumF
import Derived.ArgAppend
import Derived.Laws.IdiomStrings
namespace Go.Proofs.YtllcgehfmkmcdaaDoor
open Go.RowKit
set_option linter.unusedVariables false
set_option linter.unusedSimpArgs false

/-- the bytes of a text -/
def strL (s : ByteArray) : List Int := s.data.toList.map fun b => (b.toNat : Int)
theorem strL_len (s : ByteArray) : (strL s).length = s.size := by
  show (s.data.toList.map _).length = s.data.size
  rw [List.length_map, Array.length_toList]
theorem strL_rng (s : ByteArray) : ∀ z ∈ strL s, 0 ≤ z ∧ z ≤ 255 := by
  intro z hz
  simp only [strL, List.mem_map] at hz
  obtain ⟨b, _, rfl⟩ := hz
  have := b.toNat_lt
  omega
theorem str_at (w : World) (s : ByteArray) (c : Nat) (r : Nat × Nat) : BytesAt (w.drew.alloc (.cells (bytesRow s c) 5 r)) w.heap.size 0 (strL s) := fun j hj => by
  rw [strL_len] at hj
  have h : (w.drew.alloc (.cells (bytesRow s c) 5 r)).heap[w.heap.size]? = some (.cells (bytesRow s c) 5 r) := heap_alloc_new w.drew _
  have hj' : j < s.data.size := hj
  simp only [World.cell?, h, Nat.zero_add]
  rw [show (bytesRow s c)[j]? = some (Value.int .u8 (s.data[j].toNat : Int)) by
    unfold bytesRow
    rw [Array.getElem?_append_left (by simpa using hj')]; simp only [Array.getElem?_map, Array.getElem?_eq_getElem hj', Option.map_some]]
  simp [strL, List.getD, List.getElem?_map, Array.getElem?_toList, Array.getElem?_eq_getElem hj']

theorem bytes_run {w : World} {b : Nat} {t : TypeId} {zs : List Int} (h : Blk w b (bv zs).toArray t) : BytesAt w b 0 zs := fun j hj => by
  rw [Nat.zero_add, h.cell j, bv_get zs j hj]

/-- append onto bytes whose array is full -/
theorem appFull {ops : Array Oper} {rest : List Oper} {o : Oper} {a : Act} {w : World} {Q : Exit → Act → World → Prop} (hgd : o.guard = none) (s x : Operand)
    (ho : o.op = .call { callee := .builtin .append, args := #[s, x], argTypes := #[23, 23] }) (b n : Nat) (xs : List Int) (hs : a.eval s = .slice (some ⟨b, 0, none⟩) n n) (hb : b < w.heap.size) (hxs : BytesAt w b 0 xs) (hxl : xs.length = n)
    (p : Option Addr) (m c : Nat) (zs : List Int) (hx : a.eval x = .slice p m c) (hz : SrcW w p m c zs) (hlen : xs.length + zs.length ≤ 2000000000)
    (h : ∀ p' c' w', SrcV w' p' (n + m) c' (xs ++ zs) → n + m ≤ c' → c' ≤ maxLen → Below w.heap.size w w' → wpList Tryd.prog ops Q rest (a.put o.dst (.slice p' (n + m) c')) w') : wpList Tryd.prog ops Q (o :: rest) a w := by
  obtain ⟨i0, hi, hz0, hz1, hz2⟩ := info_parts info8
  have same : zs = [] → m = 0 → wpList Tryd.prog ops Q rest (a.put o.dst (.slice (some ⟨b, 0, none⟩) n n)) w := by
    intro e1 e2
    subst e1; subst e2
    refine h (some ⟨b, 0, none⟩) n w ⟨by simp [hxl], .inr ⟨b, 0, rfl, hb, by simpa using hxs⟩⟩ (by omega) (by unfold maxLen; simp at hlen; omega) (Below.refl _ _)
  have olds : ∀ j u, (bv xs)[j]? = some u → w.cell? ⟨b, 0 + j, none⟩ = some u := by
    intro j u hj
    have hj' : j < xs.length := by
      have := (List.getElem?_eq_some_iff.1 hj).1
      rwa [bv_len] at this
    rw [hxs j hj']
    have h2 := bv_get xs j hj'
    rw [List.getElem?_toArray, hj] at h2
    exact h2.symm
  obtain ⟨hm, ⟨rfl, h0, rfl⟩ | ⟨b2, off, rfl, hb2, hc⟩⟩ | ⟨rfl, rfl, rfl, ad, rfl⟩ := hz
  rotate_left 2
  · refine wpList_append_arg w hgd s x 23 ho 5 i0 (.int .u8 0) 1 1 Tryd.underlying23 hi hz0 hz1 hz2 rfl (by decide) b 0 n n (bv xs) hs (by rw [bv_len]; omega) olds ad 0 0 [] hx rfl (fun j u hj => by simp at hj) (fun u hu => by simp at hu) (fun _ j hj => by simp at hj) (by unfold maxLen; simp at hlen; omega) (by simp at hlen; omega) (fun _ => same rfl rfl) (fun hg => by omega)
  · have e1 : zs = [] := List.eq_nil_of_length_eq_zero (by omega)
    refine wpList_plain hgd fun K hK => ?_
    have hrun : (Builtin.append_ #[23, 23] o.type #[.slice (some ⟨b, 0, none⟩) n n, .slice none 0 0]).run Tryd.prog w = .ok (.slice (some ⟨b, 0, none⟩) n n) w := by
      simp [Builtin.append_, run_underlying Tryd.underlying23, sizeOf, typeInfo, hi, Builtin.lenOf, Builtin.firstCells, loadCells, loadCellsFrom, storeCells]
    subst h0
    unfold Oper.wp
    simp [execOp, ho, resolve, invoke, builtin, hs, hx, hrun, Result.andThen]
    exact hK _ _ (same e1 rfl)
  · by_cases hm0 : m = 0
    · have e1 : zs = [] := List.eq_nil_of_length_eq_zero (by omega)
      subst e1
      subst hm0
      refine wpList_append_arg w hgd s x 23 ho 5 i0 (.int .u8 0) 1 1 Tryd.underlying23 hi hz0 hz1 hz2 rfl (by decide) b 0 n n (bv xs) hs (by rw [bv_len]; omega) ?_ ⟨b2, off, none⟩ 0 c [] hx rfl (fun j u hj => by simp at hj) (fun u hu => by simp at hu) (fun _ j hj => by simp at hj) (by unfold maxLen; simp at hlen; omega) (by simp at hlen; omega) (fun _ => ?_) (fun hg => by omega)
      · intro j u hj
        have hj' : j < xs.length := by
          have := (List.getElem?_eq_some_iff.1 hj).1
          rwa [bv_len] at this
        rw [hxs j hj']
        have h2 := bv_get xs j hj'
        rw [List.getElem?_toArray, hj] at h2
        exact h2.symm
      · exact same rfl rfl
    · refine wpList_append_grows w hgd s x 23 ho 5 i0 (.int .u8 0) 1 1 Tryd.underlying23 hi hz0 hz1 hz2 rfl (by decide) (some ⟨b, 0, none⟩) n n (bv xs) hs (fun e => by cases e) (by rw [bv_len]; omega) ?_ ⟨b2, off, none⟩ m c (bv zs) hx (by rw [bv_len]; omega) ?_ (bv_one zs) (by omega) (by unfold maxLen; omega) (by omega) ?_
      · intro b' e j u hj
        cases e
        have hj' : j < xs.length := by
          have := (List.getElem?_eq_some_iff.1 hj).1
          rwa [bv_len] at this
        rw [Addr.add_mid, hxs j hj']
        have h2 := bv_get xs j hj'
        rw [List.getElem?_toArray, hj] at h2
        exact h2.symm
      · intro j u hj
        have hj' : j < zs.length := by
          have := (List.getElem?_eq_some_iff.1 hj).1
          rwa [bv_len] at this
        rw [Addr.add_mid, hc j hj']
        have h2 := bv_get zs j hj'
        rw [List.getElem?_toArray, hj] at h2
        exact h2.symm
      · intro v' w' h1 h2
        have hO : Own8 w' w.heap.size v' (xs ++ zs) := by
          unfold Own8
          rw [List.length_append, bv, List.map_append, ← hm, hxl]
          exact h1
        obtain ⟨p', c', rfl, hsrc, hl1, hl2, _⟩ := own8_src hO
        have hl : (xs ++ zs).length = n + m := by rw [List.length_append]; omega
        rw [hl] at hsrc hl1 ⊢
        exact h p' c' w' hsrc hl1 hl2 ⟨h2.os, h2.tape, h2.output, h2.size, fun i hi => h2.block i hi (by simp)⟩

set_option maxRecDepth 100000 in
set_option maxHeartbeats 2000000 in
theorem tagged_any (s : ByteArray) (p : Option Addr) (m cap : Nat) (bs : List Int) (w : World) (hz : Hid (SrcW w p m cap bs)) (hr : Hid (∀ z ∈ bs, 0 ≤ z ∧ z ≤ 255)) (hs : s.size ≤ 100000000) (hn : m ≤ 100000000) (hk : Hid (KeysAt w)) (ts ds : List Int) (hts : Hid (IsSha (strL s) ts)) (hds : Hid (IsSha (ts ++ bs) ds)) :
    Calls Tryd.prog 19 #[.string s, .slice p m cap] w fun e w' => e = .returned (.agg (bv ds).toArray) ∧ Below w.heap.size w w' := by
  go_enter Tryd.func19, Tryd.ntmps19
  go_upto_region 1 with (fail)
  generalize hW : w.alloc _ = W1
  have T1 := Lib.hid (show Blk W1 w.heap.size (bv (List.replicate 32 0)).toArray 35 by rw [← hW]; exact zeros32 w)
  have B1 := Lib.hid (show Below w.heap.size w W1 by rw [← hW]; exact bel_alloc1 _ _)
  clear hW
  have kc := run_bytes_of_string (P := Tryd.prog) W1 9 23 5 s Tryd.underlying9 Tryd.underlying23 Tryd.underlying5
  have hcl := grownCap_ge W1 s.size 0 5
  have hcu := grownCap_le_maxLen W1 s.size 0 5 (by unfold maxLen; omega)
  have hml : maxLen ≤ 9223372036854775807 := by decide
  generalize grownCap W1 s.size 0 5 = c1 at kc hcl hcu
  go_wp2_with fail
  refine (sum_any (some ⟨W1.heap.size, 0, none⟩) s.size c1 (strL s) _ (Lib.hid ?e1) (Lib.hid (strL_rng s)) hcl (by omega) (by omega) (Lib.hid ?e5) ts hts).mono ?_
  case e1 => exact .inl ⟨(strL_len s).symm, .inr ⟨_, 0, rfl, by simp, str_at W1 s c1 _⟩⟩
  case e5 => exact (hk.out.below B1.out).below (bel_alloc1 W1 _).drew
  rintro e w3 ⟨rfl, hb3⟩
  have T3 := Lib.hid (((T1.out.alloc _).drew).below hb3 (by have := T1.out.lt; simp; omega))
  have B3 := Lib.hid (((B1.out.alloc B1.out.size _).drew).trans (hb3.mono (by have := B1.out.size; simp; omega)))
  clear hb3 kc T1 B1 hcl hcu
  have ht32 : ts.length = 32 := by rw [← hts.out.eq]; exact sha_len _
  have q1 := size32' ts ht32
  have q3 := size32 ts ht32
  have q4 : (w3.alloc (.cells #[.int .u8 0, .int .u8 0, .int .u8 0, .int .u8 0, .int .u8 0, .int .u8 0, .int .u8 0, .int .u8 0, .int .u8 0, .int .u8 0, .int .u8 0, .int .u8 0, .int .u8 0, .int .u8 0, .int .u8 0, .int .u8 0, .int .u8 0, .int .u8 0, .int .u8 0, .int .u8 0, .int .u8 0, .int .u8 0, .int .u8 0, .int .u8 0, .int .u8 0, .int .u8 0, .int .u8 0, .int .u8 0, .int .u8 0, .int .u8 0, .int .u8 0, .int .u8 0] 35)).there w3.heap.size 0 (bv ts).toArray.size := by have := (zeros32 w3).there; simp only [bv_len, List.length_replicate] at this; simp only [List.size_toArray, bv_len, ht32]; exact this
  have q5 := all_oneCell_toArray (bv_one ts)
  go_upto_region 2 with (refine wpList_store_mid rfl 35 _ _ rfl w3.heap.size 0 (bv ts).toArray rfl rfl q4 q3 q5 ?_)
  simp only [Act.put]
  generalize hW4 : World.setCells _ _ _ _ = W4
  have A4 := Lib.hid (show Blk W4 w3.heap.size (bv ts).toArray 35 by rw [← hW4]; exact (zeros32 w3).fill (by rw [bv_len, bv_len, ht32, List.length_replicate]))
  have T4 := Lib.hid (show Blk W4 w.heap.size (bv (List.replicate 32 0)).toArray 35 by rw [← hW4]; exact Blk.others (Nat.ne_of_lt T3.out.lt) _ _ (T3.out.alloc _))
  have B4 := Lib.hid (show Below w.heap.size w W4 by rw [← hW4]; exact setCells_below B3.out.size _ _ (B3.out.alloc B3.out.size _))
  have la := A4.out.lt
  clear hW4 q1 q3 q4 q5 T3 B3
  obtain ⟨ab, hab⟩ : ∃ ab, w3.heap.size = ab := ⟨_, rfl⟩
  rw [hab] at A4 la ⊢
  clear hab
  have H32 := Lib.hid ht32
  have hzl := Lib.hid hz.out.len
  clear ht32
  go_wp2_with (at_builtin; refine appFull rfl (.tmp 9) (.tmp 10) rfl ab 32 ts rfl la (bytes_run A4.out) H32.out p m cap bs rfl (hz.out.below B4.out) ?f1 ?_)
  case f1 => have := H32.out; have := hzl.out; omega
  intro p' c' w5 hsrc hc1 hc2 hb5
  have T5 := Lib.hid (T4.out.below hb5 T4.out.lt)
  have B5 := Lib.hid (B4.out.trans (hb5.mono B4.out.size))
  have S5 := Lib.hid hsrc
  clear hb5 hsrc T4 B4 A4 la
  go_wp2_with fail
  refine (sum_any p' (32 + m) c' (ts ++ bs) w5 (Lib.hid (.inl S5.out)) (Lib.hid ?g1) hc1 (by omega) (by omega) (Lib.hid (hk.out.below B5.out)) ds hds).mono ?_
  case g1 =>
    intro z hz
    rcases List.mem_append.1 hz with hz | hz
    · rw [← hts.out.eq] at hz; exact sha_rng _ z hz
    · exact hr.out z hz
  rintro e w6 ⟨rfl, hb6⟩
  have T6 := Lib.hid (T5.out.below hb6 T5.out.lt)
  have B6 := Lib.hid (B5.out.trans (hb6.mono B5.out.size))
  clear hb6 T5 B5
  have hd32 : ds.length = 32 := by rw [← hds.out.eq]; exact sha_len _
  have q1 := size32' ds hd32
  have q3 := size32 ds hd32
  have q4 : w6.there w.heap.size 0 (bv ds).toArray.size := by have := T6.out.there; simp only [bv_len, List.length_replicate] at this; simp only [List.size_toArray, bv_len, hd32]; exact this
  have q5 := all_oneCell_toArray (bv_one ds)
  have HD := Lib.hid hd32
  clear hd32
  go_wp2_with (refine wpList_store_mid rfl 35 _ _ rfl w.heap.size 0 (bv ds).toArray rfl rfl q4 q3 q5 ?_)
  refine bodyPost_ret (v := .agg (bv ds).toArray) (results_cell1 (a := ⟨w.heap.size, 0, none⟩) rfl _ rfl (run_loadVar_mid _ w.heap.size 0 _ (bv ds) _ (T6.out.fill (by rw [bv_len, bv_len, List.length_replicate, HD.out])).range Tryd.underlying35 rfl q1)) rfl ⟨rfl, setCells_below (Nat.le_refl _) _ _ B6.out⟩
end Go.Proofs.YtllcgehfmkmcdaaDoor
