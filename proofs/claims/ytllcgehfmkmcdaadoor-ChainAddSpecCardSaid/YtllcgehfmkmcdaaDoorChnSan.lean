/- Chains: the law checks its examples. -/
import Derived.Test.YtllcgehfmkmcdaaDoorChnSn0
import Derived.Test.YtllcgehfmkmcdaaDoorRegP
import Derived.Lib.SmallJoins
namespace Go.Proofs.YtllcgehfmkmcdaaDoor
open Go.RowKit Go.Joins
set_option linter.unusedVariables false
set_option linter.unusedSimpArgs false

set_option maxRecDepth 100000 in
theorem built_one : Tryd.prog.built 37 [(1, .int .i64 1)] = some (lkv ⟨0, 1, List.replicate 32 0, none, 0, 0, []⟩).toArray := by kernel_rfl
theorem src1m (w : World) (z : Int) (t : TypeId) (fr : Nat × Nat) : SrcW (w.alloc (.cells #[.int .u8 z] t fr)) (some ⟨w.heap.size, 0, none⟩) 1 1 [z] := .inl ⟨rfl, .inr ⟨w.heap.size, 0, rfl, by simp, fun j hj => by
  have : j < 1 := hj
  obtain rfl : j = 0 := by omega
  exact cell_alloc_mark_at w _ t fr w.heap.size 0 rfl⟩⟩
theorem cvK (w : World) (z : Int) : (convert 23 23 (.slice (some ⟨w.heap.size, 0, none⟩) 1 1)).run Tryd.prog (w.alloc (.cells #[.int .u8 z] 5)) = .ok (.slice (some ⟨w.heap.size, 0, none⟩) 1 1) (w.alloc (.cells #[.int .u8 z] 5 (1, 2))) :=
  run_convert_bytes_const_at w 23 5 #[.int .u8 z] 1 1 w.heap.size rfl Tryd.underlying23 Tryd.underlying5
theorem okOne (w : World) : LkOk w ⟨0, 1, List.replicate 32 0, none, 0, 0, []⟩ := ⟨by decide, by decide, srcNil w, by simp, by simp, by simp, ⟨by decide, by decide⟩, ⟨by decide, by decide⟩⟩
theorem own8_len {w : World} {B : Nat} {v : Value} {zs : List Int} (h : Own8 w B v zs) {n : Nat} (hn : zs.length = n) : ∃ p c, v = .slice p n c ∧ SrcW w p n c zs := by
  subst hn; exact own8_tag h
theorem own8_made (w : World) (zs : List Int) (h : zs.length ≤ 1000000) : Own8 (w.alloc (.cells (bv zs).toArray 5)) w.heap.size (.slice (some ⟨w.heap.size, 0, none⟩) zs.length zs.length) zs :=
  ⟨by simp [bv], .inr ⟨w.heap.size, zs.length, (bv zs).toArray, rfl, Nat.le_refl _, World.alloc_heap_new w _, Nat.le_refl _, by unfold maxLen; omega, by simp [bv], by simp [bv]; exact List.take_of_length_le (by simp)⟩⟩
set_option maxRecDepth 100000 in
theorem chkOne_call (w : World) (hkey : Hid (KeysAt w)) : Calls Tryd.prog 16 #[.slice (some ⟨w.heap.size, 0, none⟩) 1 1] (w.alloc (.cells #[.int .i64 0, .int .i64 1, .int .u8 0, .int .u8 0, .int .u8 0, .int .u8 0, .int .u8 0, .int .u8 0, .int .u8 0, .int .u8 0, .int .u8 0, .int .u8 0, .int .u8 0, .int .u8 0, .int .u8 0, .int .u8 0, .int .u8 0, .int .u8 0, .int .u8 0, .int .u8 0, .int .u8 0, .int .u8 0, .int .u8 0, .int .u8 0, .int .u8 0, .int .u8 0, .int .u8 0, .int .u8 0, .int .u8 0, .int .u8 0, .int .u8 0, .int .u8 0, .int .u8 0, .int .u8 0, .slice none 0 0] 37)) fun r w' => r = .returned (.int .i64 80) ∧ Below w.heap.size w w' := by
  have h := ccheck_is (some ⟨w.heap.size, 0, none⟩) 1 1 [⟨0, 1, List.replicate 32 0, none, 0, 0, []⟩] 80 (w.alloc (.cells (lkv ⟨0, 1, List.replicate 32 0, none, 0, 0, []⟩).toArray 37)) (Lib.hid (lksOne (KBlk.box w (by decide)) (okOne _))) (Lib.hid (smO _)) (Lib.hid (hkey.out.below (bel_alloc1 w _))) (Lib.hid (chkOne _))
  refine h.mono ?_
  rintro r w' ⟨rfl, hb⟩
  exact ⟨rfl, (bel_alloc1 w _).trans (hb.mono (by simp))⟩
set_option maxRecDepth 100000 in
set_option maxHeartbeats 16000000 in
theorem sane08_any (w : World) (hkey : Hid (KeysAt w)) : Calls Tryd.prog 8 #[] w fun r w' => r = .returned (.bool true) ∧ Below w.heap.size w w' := by
  obtain ⟨d0, h0⟩ := isHead []
  have H0 := Lib.hid h0
  have hl0 := Lib.hid h0.tg.len
  have HT0 := Lib.hid (show IsTg tNone [] d0 from h0.tg)
  have B0 := Lib.hid (Below.refl w.heap.size w)
  clear h0
  have cv := cvK w 120
  go_enter Tryd.func8, Tryd.ntmps8
  go_upto_region 2 with (go_at_call 10; refine (cadd_ok0 none 0 0 [] 3 (some ⟨w.heap.size, 0, none⟩) 1 1 [120] _ (Lib.hid (lksNil _)) (Lib.hid sm0) (Lib.hid (hkey.out.below (bel_alloc1 w _))) (Lib.hid chk0) (Lib.hid (by decide)) rfl (Lib.hid (src1m w 120 _ _)) (Lib.hid (by simp)) (by omega) d0 H0).mono ?_; rintro e w1 ⟨g1, k1, q1, r1, rfl, hV, hg, hbb⟩; have V1 := Lib.hid (show LksV w1 (some ⟨g1, 0, none⟩) 1 k1 [lA d0 q1 r1] from hV); have B1 := Lib.hid (show Below w.heap.size w w1 from (bel_alloc1 w _).trans (hbb.mono (by simp))); clear hV hg hbb)
  obtain ⟨d1, h1⟩ := isHead [lA d0 q1 r1]
  have H1 := Lib.hid h1
  have hl1 := Lib.hid h1.tg.len
  have HT1 := Lib.hid (show IsTg tLink ([3, 4, 1, 6, 1, 0, 2, 32] ++ d0 ++ [2, 1, 120]) d1 by rw [← txtA (q := q1) (r := r1) hl0.out]; exact headA h1)
  clear h1
  have hk1a := V1.out.nc
  have hk1b := V1.out.cm
  clear cv
  have cv := cvK w1 121
  go_upto_region 3 with (go_at_call 10; refine (cadd_ok1 (some ⟨g1, 0, none⟩) 1 k1 [lA d0 q1 r1] 3 (some ⟨w1.heap.size, 0, none⟩) 1 1 [121] _ (Lib.hid (V1.out.below (bel_alloc1 w1 _))) (Lib.hid smA) (Lib.hid (hkey.out.below ((bel_trans B1.out (bel_alloc1 w1 _))))) (Lib.hid (chkA H0.out)) (Lib.hid (by decide)) (by omega) rfl (Lib.hid (src1m w1 121 _ _)) (Lib.hid (by simp)) (by omega) d1 H1).mono ?_; rintro e w2 ⟨g2, k2, q2, r2, rfl, hV, hg, hbb⟩; have hb : Below w1.heap.size w1 w2 := (bel_alloc1 w1 _).trans (hbb.mono (by simp)); have B2 := Lib.hid (bel_trans B1.out hb); have V2 := Lib.hid (V1.out.below hb); have X2 := Lib.hid (show LksV w2 (some ⟨g2, 0, none⟩) 2 k2 [lA d0 q1 r1, lB d1 q2 r2 121] from hV); clear hV hg hbb hb)
  have hk2a := X2.out.nc
  have hk2b := X2.out.cm
  clear cv
  have cv := cvK w2 122
  go_upto_region 4 with (go_at_call 10; refine (cadd_ok1 (some ⟨g1, 0, none⟩) 1 k1 [lA d0 q1 r1] 3 (some ⟨w2.heap.size, 0, none⟩) 1 1 [122] _ (Lib.hid (V2.out.below (bel_alloc1 w2 _))) (Lib.hid smA) (Lib.hid (hkey.out.below ((bel_trans B2.out (bel_alloc1 w2 _))))) (Lib.hid (chkA H0.out)) (Lib.hid (by decide)) (by omega) rfl (Lib.hid (src1m w2 122 _ _)) (Lib.hid (by simp)) (by omega) d1 H1).mono ?_; rintro e w3 ⟨g3, k3, q3, r3, rfl, hV, hg, hbb⟩; have hb : Below w2.heap.size w2 w3 := (bel_alloc1 w2 _).trans (hbb.mono (by simp)); have B3 := Lib.hid (bel_trans B2.out hb); have V3 := Lib.hid (V2.out.below hb); have X3 := Lib.hid (X2.out.below hb); have Y3 := Lib.hid (show LksV w3 (some ⟨g3, 0, none⟩) 2 k3 [lA d0 q1 r1, lB d1 q3 r3 122] from hV); clear hV hg hbb hb)
  have hk3a := Y3.out.nc
  have hk3b := Y3.out.cm
  clear cv
  go_upto_region 5 with (go_at_call 10; refine (cadd_arg0 none 0 0 [] 24 none 0 0 [] _ (Lib.hid (lksNil _)) (Lib.hid sm0) (Lib.hid (hkey.out.below B3.out)) (Lib.hid chk0) (Lib.hid (by decide))).mono ?_; rintro e w4 ⟨rfl, hb⟩; have B4 := Lib.hid (bel_trans B3.out hb); have V4 := Lib.hid (V3.out.below hb); have X4 := Lib.hid (X3.out.below hb); have Y4 := Lib.hid (Y3.out.below hb); clear hb)
  go_upto_region 6 with (go_at_call 10; refine (cadd_arg1 (some ⟨g1, 0, none⟩) 1 k1 [lA d0 q1 r1] 4 none 0 0 [] _ V4 (Lib.hid smA) (Lib.hid (hkey.out.below B4.out)) (Lib.hid (chkA H0.out)) (Lib.hid (by decide)) (by omega) (by simp [lA])).mono ?_; rintro e w5 ⟨rfl, hb⟩; have B5 := Lib.hid (bel_trans B4.out hb); have V5 := Lib.hid (V4.out.below hb); have X5 := Lib.hid (X4.out.below hb); have Y5 := Lib.hid (Y4.out.below hb); clear hb)
  go_upto_region 7 with (go_at_call 12; refine (cpart_same (some ⟨g2, 0, none⟩) (some ⟨g3, 0, none⟩) 2 k2 2 k3 [lA d0 q1 r1, lB d1 q2 r2 121] [lA d0 q1 r1, lB d1 q3 r3 122] _ X5 Y5 (Lib.hid smB) (Lib.hid smB) (Lib.hid (hkey.out.below B5.out)) (Lib.hid (chkB H0.out H1.out)) (Lib.hid (chkB H0.out H1.out)) (by omega) (by omega) rfl 1 true (Lib.hid fstBC)).mono ?_; rintro e w6 ⟨rfl, hb⟩; have B6 := Lib.hid (bel_trans B5.out hb); have V6 := Lib.hid (V5.out.below hb); have X6 := Lib.hid (X5.out.below hb); have Y6 := Lib.hid (Y5.out.below hb); clear hb)
  go_upto_region 8 with (go_at_call 12; refine (cpart_same (some ⟨g1, 0, none⟩) (some ⟨g2, 0, none⟩) 1 k1 2 k2 [lA d0 q1 r1] [lA d0 q1 r1, lB d1 q2 r2 121] _ V6 X6 (Lib.hid smA) (Lib.hid smB) (Lib.hid (hkey.out.below B6.out)) (Lib.hid (chkA H0.out)) (Lib.hid (chkB H0.out H1.out)) (by omega) (by omega) rfl 0 false (Lib.hid fstAB)).mono ?_; rintro e w7 ⟨rfl, hb⟩; have B7 := Lib.hid (bel_trans B6.out hb); have V7 := Lib.hid (V6.out.below hb); have X7 := Lib.hid (X6.out.below hb); have Y7 := Lib.hid (Y6.out.below hb); clear hb)
  go_upto_region 9 with (go_at_call 12; refine (cpart_n0 none (some ⟨g1, 0, none⟩) 0 0 1 k1 [] [lA d0 q1 r1] _ (Lib.hid (lksNil _)) V7 (Lib.hid sm0) (Lib.hid smA) (Lib.hid (hkey.out.below B7.out)) (Lib.hid chk0) (Lib.hid (chkA H0.out)) rfl 0 false (Lib.hid fst0)).mono ?_; rintro e w8 ⟨rfl, hb⟩; have B8 := Lib.hid (bel_trans B7.out hb); have V8 := Lib.hid (V7.out.below hb); have X8 := Lib.hid (X7.out.below hb); have Y8 := Lib.hid (Y7.out.below hb); clear hb)
  go_upto_region 11 with fail
  have hk2c : 2 ≤ k2 := hk2a
  go_upto_region 13 with (first
    | (go_at_call 16; with_reducible refine (ccheck_is none 0 0 [] 0 _ (Lib.hid (lksNil _)) (Lib.hid sm0) (Lib.hid (hkey.out.below B8.out)) (Lib.hid chk0)).mono ?_; rintro e w9 ⟨rfl, hb⟩; have B9 := Lib.hid (bel_trans B8.out hb); have V9 := Lib.hid (V8.out.below hb); have X9 := Lib.hid (X8.out.below hb); have Y9 := Lib.hid (Y8.out.below hb); clear hb)
    | (go_at_call 16; with_reducible refine (ccheck_is (some ⟨g2, 0, none⟩) 2 k2 [lA d0 q1 r1, lB d1 q2 r2 121] 0 _ X9 (Lib.hid smB) (Lib.hid (hkey.out.below B9.out)) (Lib.hid (chkB H0.out H1.out))).mono ?_; rintro e w10 ⟨rfl, hb⟩; have B10 := Lib.hid (bel_trans B9.out hb); have V10 := Lib.hid (V9.out.below hb); have X10 := Lib.hid (X9.out.below hb); have Y10 := Lib.hid (Y9.out.below hb); clear hb)
    | (go_at_call 16; with_reducible refine (chkOne_call w10 (Lib.hid (hkey.out.below B10.out))).mono ?_; rintro e w11 ⟨rfl, hb⟩; have B11 := Lib.hid (bel_trans B10.out hb); have V11 := Lib.hid (V10.out.below hb); have X11 := Lib.hid (X10.out.below hb); have Y11 := Lib.hid (Y10.out.below hb); clear hb)
    | (go_at_call 16; with_reducible refine (ccheck_is (some ⟨g2, 35, none⟩) 1 (k2 - 1) [lB d1 q2 r2 121] 80 _ (Lib.hid X11.out.tail) (Lib.hid smT) (Lib.hid (hkey.out.below B11.out)) (Lib.hid chkTl)).mono ?_; rintro e w12 ⟨rfl, hb⟩; have B12 := Lib.hid (bel_trans B11.out hb); have V12 := Lib.hid (V11.out.below hb); have X12 := Lib.hid (X11.out.below hb); have Y12 := Lib.hid (Y11.out.below hb); clear hb))
  go_upto_region 14 with (first
    | (go_at_call 19; with_reducible refine (tagged_is ⟨#[110, 111, 110, 101]⟩ tNone none 0 0 [] d0 _ (by decide) (Lib.hid (srcNil _)) (Lib.hid (by simp)) (by decide) (by omega) (Lib.hid (hkey.out.below B12.out)) HT0).mono ?_; rintro e w13 ⟨rfl, hb⟩; have B13 := Lib.hid (bel_trans B12.out hb); have V13 := Lib.hid (V12.out.below hb); have X13 := Lib.hid (X12.out.below hb); have Y13 := Lib.hid (Y12.out.below hb); clear hb)
    | (refine list_storeD rfl (.tmp 20) (.tmp 149) rfl w13.heap.size rfl d0 rfl hl0.out (List.replicate 32 0) (Dg.new w13) ?_))
  intro w14 D14 k14
  have hb : Below w13.heap.size w13 w14 := (bel_alloc1 w13 _).trans (k14.below (Nat.le_refl _))
  have B14 := Lib.hid (bel_trans B13.out hb)
  have V14 := Lib.hid (V13.out.below hb)
  have X14 := Lib.hid (X13.out.below hb)
  have Y14 := Lib.hid (Y13.out.below hb)
  have S14 := Lib.hid D14
  clear hb k14 D14
  generalize w13.heap.size = sb at S14 ⊢
  have hsb := S14.out.lt
  go_upto_region 15 with (at_builtin; refine app8w rfl (.tmp 150) (.tmp 151) rfl w14.heap.size (.slice (some ⟨w14.heap.size, 0, none⟩) 8 8) [3, 4, 1, 6, 1, 0, 2, 32] rfl (own8_made w14 [3, 4, 1, 6, 1, 0, 2, 32] (by decide)) (some ⟨sb, 0, none⟩) 32 32 d0 rfl (.inl ⟨hl0.out.symm, .inr ⟨sb, 0, rfl, by simp; omega, ((S14.out.alloc _).bytes)⟩⟩) (by simp [hl0.out]) (by simp) ?_)
  intro v15 w15 ho hg
  have hb : Below w14.heap.size w14 w15 := bel_grown8 (bel_alloc1 w14 _) (own8_made w14 [3, 4, 1, 6, 1, 0, 2, 32] (by decide)) hg (by simp)
  have B15 := Lib.hid (bel_trans B14.out hb)
  have V15 := Lib.hid (V14.out.below hb)
  have X15 := Lib.hid (X14.out.below hb)
  have Y15 := Lib.hid (Y14.out.below hb)
  have S15 := Lib.hid (S14.out.bel hb)
  have O15 := Lib.hid ho
  have HB15 := Lib.hid hb
  have hw15 := Lib.hid hb.size
  clear hb hg ho
  go_upto_region 15 with (at_builtin; refine app8w rfl (.tmp 152) (.tmp 153) rfl w14.heap.size v15 ([3, 4, 1, 6, 1, 0, 2, 32] ++ d0) rfl (own8_below O15.out (bel_alloc1 w15 _)) (some ⟨w15.heap.size, 0, none⟩) 3 3 [2, 1, 120] rfl (.inl ⟨rfl, .inr ⟨w15.heap.size, 0, rfl, by simp, bytes_run (Blk.new w15 (bv [2, 1, 120]).toArray _)⟩⟩) (by simp [hl0.out]) (by have := hw15.out; simp; omega) ?_)
  intro v16 w16 ho hg
  have hb : Below w14.heap.size w14 w16 := bel_grown8 ((HB15.out).trans ((bel_alloc1 w15 _).mono hw15.out)) (own8_below O15.out (bel_alloc1 w15 _)) hg (by have := hw15.out; simp; omega)
  have B16 := Lib.hid (bel_trans B14.out hb)
  have V16 := Lib.hid (V14.out.below hb)
  have X16 := Lib.hid (X14.out.below hb)
  have Y16 := Lib.hid (Y14.out.below hb)
  have S16 := Lib.hid (S14.out.bel hb)
  have O16 := Lib.hid ho
  clear hb hg ho
  obtain ⟨p16, c16, hv16, hz16⟩ := own8_len (show Own8 w16 w14.heap.size v16 ([3, 4, 1, 6, 1, 0, 2, 32] ++ d0 ++ [2, 1, 120]) from O16.out) (show _ = 43 by simp [hl0.out])
  subst hv16
  have Z16 := Lib.hid hz16
  clear hz16
  go_upto_region 15 with fail
  refine wp_region_any (by kernel_rfl) ?_
  change wpAny _ _ _ _ _ _ _ (World.drew _)
  generalize hWD : World.drew _ = V
  have BX := Lib.hid (show Below w.heap.size w V by rw [← hWD]; exact B16.out.drew)
  have VX := Lib.hid (show LksV V (some ⟨g1, 0, none⟩) 1 k1 [lA d0 q1 r1] by rw [← hWD]; exact V16.out.below (Below.refl _ _).drew)
  have XX := Lib.hid (show LksV V (some ⟨g2, 0, none⟩) 2 k2 [lA d0 q1 r1, lB d1 q2 r2 121] by rw [← hWD]; exact X16.out.below (Below.refl _ _).drew)
  have SX := Lib.hid (show Dg V sb d0 by rw [← hWD]; exact S16.out.drew)
  have ZX := Lib.hid (show SrcW V p16 43 c16 ([3, 4, 1, 6, 1, 0, 2, 32] ++ d0 ++ [2, 1, 120]) by rw [← hWD]; exact Z16.out.below (Below.refl _ _).drew)
  clear hWD
  obtain ⟨b, off, e, hbg1, hra, hoa⟩ := VX.out.at (i := 0) (by omega)
  obtain ⟨rfl, rfl⟩ : g1 = b ∧ 0 = off := by simpa using e
  clear e
  have ca := (lk_cells hra hoa.len).2.2.1
  obtain ⟨b, off, e, hbg2, hrb, hob⟩ := XX.out.at (i := 1) (by omega)
  obtain ⟨rfl, rfl⟩ : g2 = b ∧ 0 = off := by simpa using e
  clear e
  have cb := lk_cells hrb hob.len
  have CA := Lib.hid (show BytesAt V g1 2 d0 by simpa [lA] using ca)
  have CB := Lib.hid (show BytesAt V g2 37 d1 from cb.2.2.1)
  have CN := Lib.hid (show V.cell? ⟨g2, 36, none⟩ = some (.int .i64 1) from cb.2.1)
  have CD := Lib.hid (show V.cell? ⟨g2, 69, none⟩ = some (.slice q2 1 r2) from cb.2.2.2)
  have CS := Lib.hid (show SrcW V q2 1 r2 [121] from hob.src)
  clear ca cb hra hrb hoa hob
  have RNG : ∀ z ∈ ([3, 4, 1, 6, 1, 0, 2, 32] ++ d0 ++ [2, 1, 120] : List Int), 0 ≤ z ∧ z ≤ 255 := by
    intro z hz
    rcases List.mem_append.1 hz with h | h
    · rcases List.mem_append.1 h with h | h
      · simp only [List.mem_cons, List.not_mem_nil, or_false] at h; omega
      · exact HT0.out.rng z h
    · simp only [List.mem_cons, List.not_mem_nil, or_false] at h; omega
  have hCD : ∀ u, Ext V u → Ext V u := fun u hu => hu
  have EQ0 : ∀ u, (Op.equalIn 10000 35 (.agg (bv d0).toArray) (.agg (bv d0).toArray)).run Tryd.prog u = .ok true u := fun u => by rw [eqDig_any d0 d0 hl0.out hl0.out u, decide_eq_true rfl]
  have EQ1 : ∀ u, (Op.equalIn 10000 35 (.agg (bv d1).toArray) (.agg (bv d1).toArray)).run Tryd.prog u = .ok true u := fun u => by rw [eqDig_any d1 d1 hl1.out hl1.out u, decide_eq_true rfl]
  refine region_U (D := Ext V) (Ext V) [41] (Ext.refl V) ?_
  refine anyU_takeP (i := 0) (j := 41) (v := .slice (some ⟨g1, 0, none⟩) 1 k1) 155 [34, 27, 26, 18, 17, 11, 10, 6, 5, 3, 2, 1] rfl rfl (by kernel_rfl) (by kernel_rfl) (by kernel_rfl) (fun _ _ _ h => h) (by kernel_rfl) (Ext.stable _) hCD (yieldsU_val rfl (fun u hu => by go_simp)) ?_
  refine anyU_takeP (i := 1) (j := 41) (v := .pointer (some ⟨g1, 0, none⟩)) 156 [34, 27, 26, 18, 17, 11, 10, 6, 5, 3, 2] rfl rfl (by kernel_rfl) (by kernel_rfl) (by kernel_rfl) (fun _ _ _ h => h) (by kernel_rfl) (Ext.stable _) hCD (yieldsU_val rfl (fun u hu => by go_simp)) ?_
  refine anyU_takeP (i := 2) (j := 41) (v := .pointer (some ⟨g1, 2, none⟩)) 157 [34, 27, 26, 18, 17, 11, 10, 6, 5, 3] rfl rfl (by kernel_rfl) (by kernel_rfl) (by kernel_rfl) (fun _ _ _ h => h) (by kernel_rfl) (Ext.stable _) hCD (yieldsU_val rfl (fun u hu => by go_simp)) ?_
  refine anyU_takeP (i := 3) (j := 41) (v := .agg (bv d0).toArray) 158 [34, 27, 26, 18, 17, 11, 10, 6, 5] rfl rfl (by kernel_rfl) (by kernel_rfl) (by kernel_rfl) (fun _ _ _ h => h) (by kernel_rfl) (Ext.stable _) hCD (yieldsU_of_C (yields_loadM (by rfl) (.tmp 157) rfl g1 2 rfl d0 hl0.out (fun u hu => fun j hj => (hu.cell (p := ⟨g1, 2 + j, none⟩) hbg1).trans (CA.out j hj)))) ?_
  refine anyU_takeP (i := 4) (j := 41) (v := .agg (bv d0).toArray) 159 [34, 27, 26, 18, 17, 11, 10, 6, 5] rfl rfl (by kernel_rfl) (by kernel_rfl) (by kernel_rfl) (fun _ _ _ h => h) (by kernel_rfl) (Ext.stable _) hCD (yieldsU_of_C (yields_loadD (by rfl) (.tmp 20) rfl sb rfl d0 hl0.out (fun u hu => SX.out.bel hu))) ?_
  simp only [Act.put, List.setIfInBounds_toArray, List.set_cons_succ, List.set_cons_zero]
  refine anyU_takeP (i := 5) (j := 41) (v := .bool true) 160 [34, 27, 26, 18, 17, 11, 10, 6] rfl rfl (by kernel_rfl) (by kernel_rfl) (by kernel_rfl) (fun _ _ _ h => h) (by kernel_rfl) (Ext.stable _) hCD (yieldsU_val rfl (fun u hu => by go_simp)) ?_
  refine anyU_takeP (i := 6) (j := 41) (v := .bool true) 161 [34, 27, 26, 18, 17, 11, 10] rfl rfl (by kernel_rfl) (by kernel_rfl) (by kernel_rfl) (fun _ _ _ h => h) (by kernel_rfl) (Ext.stable _) hCD (yieldsU_val rfl (fun u hu => by go_simp)) ?_
  simp only [Act.put, List.setIfInBounds_toArray, List.set_cons_succ, List.set_cons_zero]
  refine anyU_takeP (i := 7) (j := 41) (v := .agg (bv d0).toArray) 162 [34, 27, 26, 18, 17, 11] rfl rfl (by kernel_rfl) (by kernel_rfl) (by kernel_rfl) (fun _ _ _ h => h) (by kernel_rfl) (Ext.stable _) hCD (yieldsU_call rfl 15 _ _ rfl #[.slice none 0 0] (by simp [Act.eval, Act.put]) (fun u => by go_simp) (fun u hu => chead_is none 0 0 [] u (Lib.hid (lksNil u)) (Lib.hid (hkey.out.below (bel_trans BX.out hu))) (Lib.hid sm0) d0 H0)) ?_
  refine anyU_takeP (i := 8) (j := 41) (v := .agg (bv d0).toArray) 163 [34, 27, 26, 18, 17, 11, 10, 9] rfl rfl (by kernel_rfl) (by kernel_rfl) (by kernel_rfl) (fun _ _ _ h => h) (by kernel_rfl) (Ext.stable _) hCD (yieldsU_of_C (yields_loadD (by rfl) (.tmp 20) rfl sb rfl d0 hl0.out (fun u hu => SX.out.bel hu))) ?_
  simp only [Act.put, List.setIfInBounds_toArray, List.set_cons_succ, List.set_cons_zero]
  refine anyU_takeP (i := 9) (j := 41) (v := .bool true) 164 [34, 27, 26, 18, 17, 11, 10] rfl rfl (by kernel_rfl) (by kernel_rfl) (by kernel_rfl) (fun _ _ _ h => h) (by kernel_rfl) (Ext.stable _) hCD (yieldsU_val rfl (fun u hu => by go_simp)) ?_
  refine anyU_takeP (i := 10) (j := 41) (v := .bool true) 165 [34, 27, 26, 18, 17, 11] rfl rfl (by kernel_rfl) (by kernel_rfl) (by kernel_rfl) (fun _ _ _ h => h) (by kernel_rfl) (Ext.stable _) hCD (yieldsU_val rfl (fun u hu => by go_simp)) ?_
  refine anyU_takeP (i := 11) (j := 41) (v := .bool true) 166 [34, 27, 26, 18, 17] rfl rfl (by kernel_rfl) (by kernel_rfl) (by kernel_rfl) (fun _ _ _ h => h) (by kernel_rfl) (Ext.stable _) hCD (yieldsU_val rfl (fun u hu => by go_simp)) ?_
  simp only [Act.put, List.setIfInBounds_toArray, List.set_cons_succ, List.set_cons_zero]
  refine anyU_takeP (i := 12) (j := 41) (v := .slice (some ⟨g1, 0, none⟩) 1 k1) 167 [34, 27, 26, 18, 15, 13] rfl rfl (by kernel_rfl) (by kernel_rfl) (by kernel_rfl) (fun _ _ _ h => h) (by kernel_rfl) (Ext.stable _) hCD (yieldsU_val rfl (fun u hu => by go_simp)) ?_
  refine anyU_takeP (i := 13) (j := 41) (v := .agg (bv d1).toArray) 168 [34, 27, 26, 18, 15] rfl rfl (by kernel_rfl) (by kernel_rfl) (by kernel_rfl) (fun _ _ _ h => h) (by kernel_rfl) (Ext.stable _) hCD (yieldsU_call rfl 15 _ _ rfl #[.slice (some ⟨g1, 0, none⟩) 1 k1] (by simp [Act.eval, Act.put]) (fun u => by go_simp) (fun u hu => chead_is (some ⟨g1, 0, none⟩) 1 k1 [lA d0 q1 r1] u (Lib.hid (VX.out.below hu)) (Lib.hid (hkey.out.below (bel_trans BX.out hu))) (Lib.hid smA) d1 H1)) ?_
  simp only [Act.put, List.setIfInBounds_toArray, List.set_cons_succ, List.set_cons_zero]
  refine anyU_takeP (i := 14) (j := 41) (v := .slice p16 43 c16) 169 [34, 27, 26, 18, 15] rfl rfl (by kernel_rfl) (by kernel_rfl) (by kernel_rfl) (fun _ _ _ h => h) (by kernel_rfl) (Ext.stable _) hCD (yieldsU_val rfl (fun u hu => by go_simp)) ?_
  refine anyU_takeP (i := 15) (j := 41) (v := .agg (bv d1).toArray) 170 [34, 27, 26, 18] rfl rfl (by kernel_rfl) (by kernel_rfl) (by kernel_rfl) (fun _ _ _ h => h) (by kernel_rfl) (Ext.stable _) hCD (yieldsU_call rfl 19 _ _ rfl #[.string ⟨#[108, 105, 110, 107]⟩, .slice p16 43 c16] (by simp [Act.eval, Act.put]) (fun u => by go_simp) (fun u hu => tagged_is ⟨#[108, 105, 110, 107]⟩ tLink p16 43 c16 ([3, 4, 1, 6, 1, 0, 2, 32] ++ d0 ++ [2, 1, 120]) d1 u (by decide) (Lib.hid (ZX.out.below hu)) (Lib.hid RNG) (by decide) (by omega) (Lib.hid (hkey.out.below (bel_trans BX.out hu))) HT1)) ?_
  simp only [Act.put, List.setIfInBounds_toArray, List.set_cons_succ, List.set_cons_zero]
  refine anyU_takeP (i := 16) (j := 41) (v := .bool true) 171 [34, 27, 26, 18, 17] rfl rfl (by kernel_rfl) (by kernel_rfl) (by kernel_rfl) (fun _ _ _ h => h) (by kernel_rfl) (Ext.stable _) hCD (yieldsU_val rfl (fun u hu => by go_simp)) ?_
  refine anyU_takeP (i := 17) (j := 41) (v := .bool true) 172 [34, 27, 26, 18] rfl rfl (by kernel_rfl) (by kernel_rfl) (by kernel_rfl) (fun _ _ _ h => h) (by kernel_rfl) (Ext.stable _) hCD (yieldsU_val rfl (fun u hu => by go_simp)) ?_
  refine anyU_takeP (i := 18) (j := 41) (v := .bool true) 173 [34, 27, 26] rfl rfl (by kernel_rfl) (by kernel_rfl) (by kernel_rfl) (fun _ _ _ h => h) (by kernel_rfl) (Ext.stable _) hCD (yieldsU_val rfl (fun u hu => by go_simp)) ?_
  simp only [Act.put, List.setIfInBounds_toArray, List.set_cons_succ, List.set_cons_zero]
  refine anyU_takeP (i := 19) (j := 41) (v := .slice (some ⟨g2, 0, none⟩) 2 k2) 174 [34, 27, 26, 25, 22, 21, 20] rfl rfl (by kernel_rfl) (by kernel_rfl) (by kernel_rfl) (fun _ _ _ h => h) (by kernel_rfl) (Ext.stable _) hCD (yieldsU_val rfl (fun u hu => by go_simp)) ?_
  refine anyU_takeP (i := 20) (j := 41) (v := .pointer (some ⟨g2, 35, none⟩)) 175 [34, 27, 26, 25, 22, 21] rfl rfl (by kernel_rfl) (by kernel_rfl) (by kernel_rfl) (fun _ _ _ h => h) (by kernel_rfl) (Ext.stable _) hCD (yieldsU_val rfl (fun u hu => by go_simp)) ?_
  refine anyU_takeP (i := 21) (j := 41) (v := .pointer (some ⟨g2, 37, none⟩)) 176 [34, 27, 26, 25, 22] rfl rfl (by kernel_rfl) (by kernel_rfl) (by kernel_rfl) (fun _ _ _ h => h) (by kernel_rfl) (Ext.stable _) hCD (yieldsU_val rfl (fun u hu => by go_simp)) ?_
  refine anyU_takeP (i := 22) (j := 41) (v := .agg (bv d1).toArray) 177 [34, 27, 26, 25] rfl rfl (by kernel_rfl) (by kernel_rfl) (by kernel_rfl) (fun _ _ _ h => h) (by kernel_rfl) (Ext.stable _) hCD (yieldsU_of_C (yields_loadM (by rfl) (.tmp 176) rfl g2 37 rfl d1 hl1.out (fun u hu => fun j hj => (hu.cell (p := ⟨g2, 37 + j, none⟩) hbg2).trans (CB.out j hj)))) ?_
  refine anyU_takeP (i := 23) (j := 41) (v := .slice (some ⟨g1, 0, none⟩) 1 k1) 178 [34, 27, 24] rfl rfl (by kernel_rfl) (by kernel_rfl) (by kernel_rfl) (fun _ _ _ h => h) (by kernel_rfl) (Ext.stable _) hCD (yieldsU_val rfl (fun u hu => by go_simp)) ?_
  simp only [Act.put, List.setIfInBounds_toArray, List.set_cons_succ, List.set_cons_zero]
  refine anyU_takeP (i := 24) (j := 41) (v := .agg (bv d1).toArray) 179 [34, 27] rfl rfl (by kernel_rfl) (by kernel_rfl) (by kernel_rfl) (fun _ _ _ h => h) (by kernel_rfl) (Ext.stable _) hCD (yieldsU_call rfl 15 _ _ rfl #[.slice (some ⟨g1, 0, none⟩) 1 k1] (by simp [Act.eval, Act.put]) (fun u => by go_simp) (fun u hu => chead_is (some ⟨g1, 0, none⟩) 1 k1 [lA d0 q1 r1] u (Lib.hid (VX.out.below hu)) (Lib.hid (hkey.out.below (bel_trans BX.out hu))) (Lib.hid smA) d1 H1)) ?_
  simp only [Act.put, List.setIfInBounds_toArray, List.set_cons_succ, List.set_cons_zero]
  refine anyU_takeP (i := 25) (j := 41) (v := .bool true) 180 [34, 27, 26] rfl rfl (by kernel_rfl) (by kernel_rfl) (by kernel_rfl) (fun _ _ _ h => h) (by kernel_rfl) (Ext.stable _) hCD (yieldsU_val rfl (fun u hu => by go_simp)) ?_
  refine anyU_takeP (i := 26) (j := 41) (v := .bool true) 181 [34, 27] rfl rfl (by kernel_rfl) (by kernel_rfl) (by kernel_rfl) (fun _ _ _ h => h) (by kernel_rfl) (Ext.stable _) hCD (yieldsU_val rfl (fun u hu => by go_simp)) ?_
  refine anyU_takeP (i := 27) (j := 41) (v := .bool true) 182 [34] rfl rfl (by kernel_rfl) (by kernel_rfl) (by kernel_rfl) (fun _ _ _ h => h) (by kernel_rfl) (Ext.stable _) hCD (yieldsU_val rfl (fun u hu => by go_simp)) ?_
  simp only [Act.put, List.setIfInBounds_toArray, List.set_cons_succ, List.set_cons_zero]
  refine anyU_takeP (i := 28) (j := 41) (v := .slice (some ⟨g2, 0, none⟩) 2 k2) 183 [34, 33, 32, 31, 30, 29] rfl rfl (by kernel_rfl) (by kernel_rfl) (by kernel_rfl) (fun _ _ _ h => h) (by kernel_rfl) (Ext.stable _) hCD (yieldsU_val rfl (fun u hu => by go_simp)) ?_
  refine anyU_takeP (i := 29) (j := 41) (v := .pointer (some ⟨g2, 35, none⟩)) 184 [34, 33, 32, 31, 30] rfl rfl (by kernel_rfl) (by kernel_rfl) (by kernel_rfl) (fun _ _ _ h => h) (by kernel_rfl) (Ext.stable _) hCD (yieldsU_val rfl (fun u hu => by go_simp)) ?_
  refine anyU_takeP (i := 30) (j := 41) (v := .pointer (some ⟨g2, 36, none⟩)) 185 [34, 33, 32, 31] rfl rfl (by kernel_rfl) (by kernel_rfl) (by kernel_rfl) (fun _ _ _ h => h) (by kernel_rfl) (Ext.stable _) hCD (yieldsU_val rfl (fun u hu => by go_simp)) ?_
  refine anyU_takeP (i := 31) (j := 41) (v := .int .i64 1) 186 [34, 33, 32] rfl rfl (by kernel_rfl) (by kernel_rfl) (by kernel_rfl) (fun _ _ _ h => h) (by kernel_rfl) (Ext.stable _) hCD (yieldsU_val rfl (fun u hu => by have cc := (hu.cell (p := ⟨g2, 36, none⟩) hbg2).trans CN.out; go_simp)) ?_
  refine anyU_takeP (i := 32) (j := 41) (v := .bool true) 187 [34, 33] rfl rfl (by kernel_rfl) (by kernel_rfl) (by kernel_rfl) (fun _ _ _ h => h) (by kernel_rfl) (Ext.stable _) hCD (yieldsU_val rfl (fun u hu => by go_simp)) ?_
  simp only [Act.put, List.setIfInBounds_toArray, List.set_cons_succ, List.set_cons_zero]
  refine anyU_takeP (i := 33) (j := 41) (v := .bool true) 188 [34] rfl rfl (by kernel_rfl) (by kernel_rfl) (by kernel_rfl) (fun _ _ _ h => h) (by kernel_rfl) (Ext.stable _) hCD (yieldsU_val rfl (fun u hu => by go_simp)) ?_
  refine anyU_takeP (i := 34) (j := 41) (v := .bool true) 189 [] rfl rfl (by kernel_rfl) (by kernel_rfl) (by kernel_rfl) (fun _ _ _ h => h) (by kernel_rfl) (Ext.stable _) hCD (yieldsU_val rfl (fun u hu => by go_simp)) ?_
  simp only [Act.put, List.setIfInBounds_toArray, List.set_cons_succ, List.set_cons_zero]
  refine anyU_takeP (i := 35) (j := 41) (v := .slice (some ⟨g2, 0, none⟩) 2 k2) 190 [40, 39, 38, 37, 36] rfl rfl (by kernel_rfl) (by kernel_rfl) (by kernel_rfl) (fun _ _ _ h => h) (by kernel_rfl) (Ext.stable _) hCD (yieldsU_val rfl (fun u hu => by go_simp)) ?_
  refine anyU_takeP (i := 36) (j := 41) (v := .pointer (some ⟨g2, 35, none⟩)) 191 [40, 39, 38, 37] rfl rfl (by kernel_rfl) (by kernel_rfl) (by kernel_rfl) (fun _ _ _ h => h) (by kernel_rfl) (Ext.stable _) hCD (yieldsU_val rfl (fun u hu => by go_simp)) ?_
  refine anyU_takeP (i := 37) (j := 41) (v := .pointer (some ⟨g2, 69, none⟩)) 192 [40, 39, 38] rfl rfl (by kernel_rfl) (by kernel_rfl) (by kernel_rfl) (fun _ _ _ h => h) (by kernel_rfl) (Ext.stable _) hCD (yieldsU_val rfl (fun u hu => by go_simp)) ?_
  refine anyU_takeP (i := 38) (j := 41) (v := .slice q2 1 r2) 193 [40, 39] rfl rfl (by kernel_rfl) (by kernel_rfl) (by kernel_rfl) (fun _ _ _ h => h) (by kernel_rfl) (Ext.stable _) hCD (yieldsU_val rfl (fun u hu => by have cc := (hu.cell (p := ⟨g2, 69, none⟩) hbg2).trans CD.out; go_simp)) ?_
  simp only [Act.put, List.setIfInBounds_toArray, List.set_cons_succ, List.set_cons_zero]
  refine anyU_takeP (i := 39) (j := 41) (v := .string ⟨#[121]⟩) 194 [40] rfl rfl (by kernel_rfl) (by kernel_rfl) (by kernel_rfl) (fun _ _ _ h => h) (by kernel_rfl) (Ext.stable _) hCD (yieldsU_val rfl (fun u hu => by have hc := conv_srcW (CS.out.below hu); rw [show strB [121] = ⟨#[121]⟩ from rfl] at hc; go_simp)) ?_
  refine anyU_takeP (i := 40) (j := 41) (v := .bool true) 195 [] rfl rfl (by kernel_rfl) (by kernel_rfl) (by kernel_rfl) (fun _ _ _ h => h) (by kernel_rfl) (Ext.stable _) hCD (yieldsU_val rfl (fun u hu => by go_simp)) ?_
  simp only [Act.put, List.setIfInBounds_toArray, List.set_cons_succ, List.set_cons_zero]
  refine anyU_tail 41 [42] rfl rfl (by decide) (by kernel_rfl) ?_
  intro u hu
  simp only [Act.put, List.filterMap_cons, List.filterMap_nil, List.getElem?_cons_succ, List.getElem?_cons_zero]
  have BU := Lib.hid (bel_trans BX.out hu)
  clear hu
  go_wp2_with fail
  go_ret
  exact ⟨rfl, BU.out⟩
end Go.Proofs.YtllcgehfmkmcdaaDoor
