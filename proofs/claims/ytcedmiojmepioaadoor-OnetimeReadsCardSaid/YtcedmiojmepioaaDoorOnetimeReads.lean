/- A letter that was made with a return address says the alias and the words. No condition. -/
import Derived.Test.YtcedmiojmepioaaDoorOntSan
import Derived.Test.YtcedmiojmepioaaDoorOntRd0
import Derived.Test.YtcedmiojmepioaaDoorOntOpn
import Derived.Test.YtcedmiojmepioaaDoorDigCard2
namespace Go.Proofs.YtcedmiojmepioaaDoor
open Go.ChangeShapes Go.WideShapes Go.ChangeAt Go.RowKit Go.WideElems Go.Shelf
set_option linter.unusedVariables false
set_option linter.unusedSimpArgs false

set_option maxRecDepth 100000 in
set_option maxHeartbeats 8000000 in
theorem reads_sec1 (line one two alias r p q m0 m1 m2 : Int) (w : World) (hk : Hid (KeysAt w)) (hs1 : Hid (secB one = false)) (pb ec : Int) (H2 : Hid (∀ g : World, Calls Tryd.prog 6 #[.int .i64 two] g fun e w' => e = .returned (.tuple #[.int .i64 pb, .int .i64 ec]) ∧ Below g.heap.size g w')) :
    Calls Tryd.prog 3 #[.int .i64 line, .int .i64 one, .int .i64 two, .int .i64 alias, .int .i64 r, .agg #[.int .i64 p, .int .i64 q], .agg #[.int .i64 m0, .int .i64 m1, .int .i64 m2]] w fun e w' => e = .returned (.bool true) ∧ Below w.heap.size w w' := by
  have P0 := Lib.hid ((Blk.new w #[.int .i64 p, .int .i64 q] 22).alloc (.cells #[.int .i64 m0, .int .i64 m1, .int .i64 m2] 23))
  have M0 := Lib.hid (show Blk ((w.alloc (.cells #[.int .i64 p, .int .i64 q] 22)).alloc (.cells #[.int .i64 m0, .int .i64 m1, .int .i64 m2] 23)) (w.heap.size + 1) #[.int .i64 m0, .int .i64 m1, .int .i64 m2] 23 by have := Blk.new (w.alloc (.cells #[.int .i64 p, .int .i64 q] 22)) #[.int .i64 m0, .int .i64 m1, .int .i64 m2] 23; simpa using this)
  have B0 := Lib.hid (show Below w.heap.size w ((w.alloc (.cells #[.int .i64 p, .int .i64 q] 22)).alloc (.cells #[.int .i64 m0, .int .i64 m1, .int .i64 m2] 23)) from (bel_alloc1 w _).alloc (by simp) _)
  go_enter Tryd.func3, Tryd.ntmps3
  go_wp2_with (first
    | (go_at_call 5; with_reducible refine (sane16_any _ (Lib.hid (hk.out.below B0.out))).mono ?_; rintro e wa ⟨rfl, hb⟩; have B1 := Lib.hid (bel_trans B0.out hb); have P1 := Lib.hid (P0.out.below hb P0.out.lt); have M1 := Lib.hid (M0.out.below hb M0.out.lt); clear hb)
    | (go_at_call 6; with_reducible refine (pub_no one _ hs1).mono ?_; rintro e wb ⟨rfl, hb⟩; have B2 := Lib.hid (bel_trans B1.out hb); have P2 := Lib.hid (P1.out.below hb P1.out.lt); have M2 := Lib.hid (M1.out.below hb M1.out.lt); clear hb)
    | (go_at_call 6; with_reducible refine (H2.out _).mono ?_; rintro e wc ⟨rfl, hb⟩; have B3 := Lib.hid (bel_trans B2.out hb); have P3 := Lib.hid (P2.out.below hb P2.out.lt); have M3 := Lib.hid (M2.out.below hb M2.out.lt); clear hb)
  )
  go_ret
  exact ⟨rfl, B3.out⟩
set_option maxRecDepth 100000 in
set_option maxHeartbeats 8000000 in
theorem reads_sec2 (line one two alias r p q m0 m1 m2 : Int) (w : World) (hk : Hid (KeysAt w)) (pa : Int) (hs1 : Hid (secB one = true)) (hpa : Hid (powZ 4 one = pa)) (hs2 : Hid (secB two = false)) :
    Calls Tryd.prog 3 #[.int .i64 line, .int .i64 one, .int .i64 two, .int .i64 alias, .int .i64 r, .agg #[.int .i64 p, .int .i64 q], .agg #[.int .i64 m0, .int .i64 m1, .int .i64 m2]] w fun e w' => e = .returned (.bool true) ∧ Below w.heap.size w w' := by
  have P0 := Lib.hid ((Blk.new w #[.int .i64 p, .int .i64 q] 22).alloc (.cells #[.int .i64 m0, .int .i64 m1, .int .i64 m2] 23))
  have M0 := Lib.hid (show Blk ((w.alloc (.cells #[.int .i64 p, .int .i64 q] 22)).alloc (.cells #[.int .i64 m0, .int .i64 m1, .int .i64 m2] 23)) (w.heap.size + 1) #[.int .i64 m0, .int .i64 m1, .int .i64 m2] 23 by have := Blk.new (w.alloc (.cells #[.int .i64 p, .int .i64 q] 22)) #[.int .i64 m0, .int .i64 m1, .int .i64 m2] 23; simpa using this)
  have B0 := Lib.hid (show Below w.heap.size w ((w.alloc (.cells #[.int .i64 p, .int .i64 q] 22)).alloc (.cells #[.int .i64 m0, .int .i64 m1, .int .i64 m2] 23)) from (bel_alloc1 w _).alloc (by simp) _)
  go_enter Tryd.func3, Tryd.ntmps3
  go_wp2_with (first
    | (go_at_call 5; with_reducible refine (sane16_any _ (Lib.hid (hk.out.below B0.out))).mono ?_; rintro e wa ⟨rfl, hb⟩; have B1 := Lib.hid (bel_trans B0.out hb); have P1 := Lib.hid (P0.out.below hb P0.out.lt); have M1 := Lib.hid (M0.out.below hb M0.out.lt); clear hb)
    | (go_at_call 6; with_reducible refine (pub_ok one pa _ hs1 hpa).mono ?_; rintro e wb ⟨rfl, hb⟩; have B2 := Lib.hid (bel_trans B1.out hb); have P2 := Lib.hid (P1.out.below hb P1.out.lt); have M2 := Lib.hid (M1.out.below hb M1.out.lt); clear hb)
    | (go_at_call 6; with_reducible refine (pub_no two _ hs2).mono ?_; rintro e wc ⟨rfl, hb⟩; have B3 := Lib.hid (bel_trans B2.out hb); have P3 := Lib.hid (P2.out.below hb P2.out.lt); have M3 := Lib.hid (M2.out.below hb M2.out.lt); clear hb)
  )
  go_ret
  exact ⟨rfl, B3.out⟩
set_option maxRecDepth 100000 in
set_option maxHeartbeats 8000000 in
theorem reads_mneg (line one two alias r p q m0 m1 m2 : Int) (w : World) (hk : Hid (KeysAt w)) (pa : Int) (hs1 : Hid (secB one = true)) (hpa : Hid (powZ 4 one = pa)) (pb key : Int) (hs2 : Hid (secB two = true)) (hpb : Hid (powZ 4 two = pb)) (he1 : Hid (elB pa = true)) (he2 : Hid (elB pb = true)) (hkey : Hid (mulZ pa pb = key)) (hke : Hid (elB key = true)) (ln : Hid (line < 0)) :
    Calls Tryd.prog 3 #[.int .i64 line, .int .i64 one, .int .i64 two, .int .i64 alias, .int .i64 r, .agg #[.int .i64 p, .int .i64 q], .agg #[.int .i64 m0, .int .i64 m1, .int .i64 m2]] w fun e w' => e = .returned (.bool true) ∧ Below w.heap.size w w' := by
  have t1 : line < 0 := ln.out
  have hl := Lib.hid (show lineB line = false by unfold lineB; simp; have := ln.out; omega)
  obtain ⟨zz, hzz⟩ : ∃ zz, List.replicate 32 (0 : Int) = zz := ⟨_, rfl⟩
  have EQZ := eqRt_same 0 0 0 0 zz (by rw [← hzz]; rfl)
  have BZ := Lib.hid (show Tryd.prog.built 35 [] = some (rtv 0 0 0 0 zz).toArray by rw [← hzz]; exact built_r0)
  have HZZ := Lib.hid hzz
  clear hzz
  have P0 := Lib.hid ((Blk.new w #[.int .i64 p, .int .i64 q] 22).alloc (.cells #[.int .i64 m0, .int .i64 m1, .int .i64 m2] 23))
  have M0 := Lib.hid (show Blk ((w.alloc (.cells #[.int .i64 p, .int .i64 q] 22)).alloc (.cells #[.int .i64 m0, .int .i64 m1, .int .i64 m2] 23)) (w.heap.size + 1) #[.int .i64 m0, .int .i64 m1, .int .i64 m2] 23 by have := Blk.new (w.alloc (.cells #[.int .i64 p, .int .i64 q] 22)) #[.int .i64 m0, .int .i64 m1, .int .i64 m2] 23; simpa using this)
  have B0 := Lib.hid (show Below w.heap.size w ((w.alloc (.cells #[.int .i64 p, .int .i64 q] 22)).alloc (.cells #[.int .i64 m0, .int .i64 m1, .int .i64 m2] 23)) from (bel_alloc1 w _).alloc (by simp) _)
  go_enter Tryd.func3, Tryd.ntmps3
  go_wp2_with (first
    | (go_at_call 5; with_reducible refine (sane16_any _ (Lib.hid (hk.out.below B0.out))).mono ?_; rintro e wa ⟨rfl, hb⟩; have B1 := Lib.hid (bel_trans B0.out hb); have P1 := Lib.hid (P0.out.below hb P0.out.lt); have M1 := Lib.hid (M0.out.below hb M0.out.lt); clear hb)
    | (go_at_call 6; with_reducible refine (pub_ok one pa _ hs1 hpa).mono ?_; rintro e wb ⟨rfl, hb⟩; have B2 := Lib.hid (bel_trans B1.out hb); have P2 := Lib.hid (P1.out.below hb P1.out.lt); have M2 := Lib.hid (M1.out.below hb M1.out.lt); clear hb)
    | (go_at_call 6; with_reducible refine (pub_ok two pb _ hs2 hpb).mono ?_; rintro e wc ⟨rfl, hb⟩; have B3 := Lib.hid (bel_trans B2.out hb); have P3 := Lib.hid (P2.out.below hb P2.out.lt); have M3 := Lib.hid (M2.out.below hb M2.out.lt); clear hb)
    | (go_at_call 7; refine (join2 pa pb key wc he1 he2 hkey).mono ?_; rintro e wd ⟨rfl, hb⟩; have B4 := Lib.hid (bel_trans B3.out hb); have P4 := Lib.hid (P3.out.below hb P3.out.lt); have M4 := Lib.hid (M3.out.below hb M3.out.lt); clear hb)
    | (go_at_call 8; with_reducible refine (omake_line line key alias r _ hl).mono ?_; rintro e we ⟨rfl, hb⟩; have B5 := Lib.hid (bel_trans B4.out hb); have P5 := Lib.hid (P4.out.below hb P4.out.lt); have M5 := Lib.hid (M4.out.below hb M4.out.lt); clear hb)
    | (refine list_storeR rfl (.tmp 21) (.tmp 69) rfl we.heap.size rfl 0 0 0 0 (List.replicate 32 0) rfl rfl 0 0 0 0 (List.replicate 32 0) (RBlk.new we) ?_)
  )
  intro we' qe ke
  have Ke := Lib.hid ((bel_alloc1 we _).trans (ke.below (Nat.le_refl _)))
  have Qe := Lib.hid qe
  clear qe ke
  have B6 := Lib.hid (bel_trans B5.out Ke.out)
  have P6 := Lib.hid (P5.out.below Ke.out P5.out.lt)
  have M6 := Lib.hid (M5.out.below Ke.out M5.out.lt)
  generalize we.heap.size = xb at Qe ⊢
  have X6 := Qe
  clear Ke
  replace X6 := Lib.hid (show RBlk _ xb 0 0 0 0 zz by rw [← HZZ.out]; exact X6.out)
  go_upto_region 12 with fail
  go_step
  refine list_val (by rfl) (.int .i64 160) (by go_simp) ?_
  simp only [Act.put, List.setIfInBounds_toArray, List.set_cons_succ, List.set_cons_zero]
  refine list_val (by rfl) (.bool true) (by go_simp) ?_
  simp only [Act.put, List.setIfInBounds_toArray, List.set_cons_succ, List.set_cons_zero]
  refine list_val (by rfl) (.bool true) (by go_simp) ?_
  simp only [Act.put, List.setIfInBounds_toArray, List.set_cons_succ, List.set_cons_zero]
  refine list_loadR (by rfl) (.tmp 21) rfl xb rfl 0 0 0 0 zz X6.out ?_
  simp only [Act.put, List.setIfInBounds_toArray, List.set_cons_succ, List.set_cons_zero]
  refine list_build (by rfl) 35 _ rfl [] (by rfl) _ BZ.out ?_
  simp only [Act.put, List.setIfInBounds_toArray, List.set_cons_succ, List.set_cons_zero]
  go_wp2_with fail
  go_ret
  exact ⟨rfl, B6.out⟩
set_option maxRecDepth 100000 in
set_option maxHeartbeats 8000000 in
theorem reads_mbig (line one two alias r p q m0 m1 m2 : Int) (w : World) (hk : Hid (KeysAt w)) (pa : Int) (hs1 : Hid (secB one = true)) (hpa : Hid (powZ 4 one = pa)) (pb key : Int) (hs2 : Hid (secB two = true)) (hpb : Hid (powZ 4 two = pb)) (he1 : Hid (elB pa = true)) (he2 : Hid (elB pb = true)) (hkey : Hid (mulZ pa pb = key)) (hke : Hid (elB key = true)) (ln : Hid (64 ≤ line)) :
    Calls Tryd.prog 3 #[.int .i64 line, .int .i64 one, .int .i64 two, .int .i64 alias, .int .i64 r, .agg #[.int .i64 p, .int .i64 q], .agg #[.int .i64 m0, .int .i64 m1, .int .i64 m2]] w fun e w' => e = .returned (.bool true) ∧ Below w.heap.size w w' := by
  have t1 : ¬ line < 0 := by have := ln.out; omega
  have t2 : line ≥ 64 := ln.out
  have t2b : ¬ line < 64 := by omega
  have hl := Lib.hid (show lineB line = false by unfold lineB; simp; have := ln.out; omega)
  obtain ⟨zz, hzz⟩ : ∃ zz, List.replicate 32 (0 : Int) = zz := ⟨_, rfl⟩
  have EQZ := eqRt_same 0 0 0 0 zz (by rw [← hzz]; rfl)
  have BZ := Lib.hid (show Tryd.prog.built 35 [] = some (rtv 0 0 0 0 zz).toArray by rw [← hzz]; exact built_r0)
  have HZZ := Lib.hid hzz
  clear hzz
  have P0 := Lib.hid ((Blk.new w #[.int .i64 p, .int .i64 q] 22).alloc (.cells #[.int .i64 m0, .int .i64 m1, .int .i64 m2] 23))
  have M0 := Lib.hid (show Blk ((w.alloc (.cells #[.int .i64 p, .int .i64 q] 22)).alloc (.cells #[.int .i64 m0, .int .i64 m1, .int .i64 m2] 23)) (w.heap.size + 1) #[.int .i64 m0, .int .i64 m1, .int .i64 m2] 23 by have := Blk.new (w.alloc (.cells #[.int .i64 p, .int .i64 q] 22)) #[.int .i64 m0, .int .i64 m1, .int .i64 m2] 23; simpa using this)
  have B0 := Lib.hid (show Below w.heap.size w ((w.alloc (.cells #[.int .i64 p, .int .i64 q] 22)).alloc (.cells #[.int .i64 m0, .int .i64 m1, .int .i64 m2] 23)) from (bel_alloc1 w _).alloc (by simp) _)
  go_enter Tryd.func3, Tryd.ntmps3
  go_wp2_with (first
    | (go_at_call 5; with_reducible refine (sane16_any _ (Lib.hid (hk.out.below B0.out))).mono ?_; rintro e wa ⟨rfl, hb⟩; have B1 := Lib.hid (bel_trans B0.out hb); have P1 := Lib.hid (P0.out.below hb P0.out.lt); have M1 := Lib.hid (M0.out.below hb M0.out.lt); clear hb)
    | (go_at_call 6; with_reducible refine (pub_ok one pa _ hs1 hpa).mono ?_; rintro e wb ⟨rfl, hb⟩; have B2 := Lib.hid (bel_trans B1.out hb); have P2 := Lib.hid (P1.out.below hb P1.out.lt); have M2 := Lib.hid (M1.out.below hb M1.out.lt); clear hb)
    | (go_at_call 6; with_reducible refine (pub_ok two pb _ hs2 hpb).mono ?_; rintro e wc ⟨rfl, hb⟩; have B3 := Lib.hid (bel_trans B2.out hb); have P3 := Lib.hid (P2.out.below hb P2.out.lt); have M3 := Lib.hid (M2.out.below hb M2.out.lt); clear hb)
    | (go_at_call 7; refine (join2 pa pb key wc he1 he2 hkey).mono ?_; rintro e wd ⟨rfl, hb⟩; have B4 := Lib.hid (bel_trans B3.out hb); have P4 := Lib.hid (P3.out.below hb P3.out.lt); have M4 := Lib.hid (M3.out.below hb M3.out.lt); clear hb)
    | (go_at_call 8; with_reducible refine (omake_line line key alias r _ hl).mono ?_; rintro e we ⟨rfl, hb⟩; have B5 := Lib.hid (bel_trans B4.out hb); have P5 := Lib.hid (P4.out.below hb P4.out.lt); have M5 := Lib.hid (M4.out.below hb M4.out.lt); clear hb)
    | (refine list_storeR rfl (.tmp 21) (.tmp 69) rfl we.heap.size rfl 0 0 0 0 (List.replicate 32 0) rfl rfl 0 0 0 0 (List.replicate 32 0) (RBlk.new we) ?_)
  )
  intro we' qe ke
  have Ke := Lib.hid ((bel_alloc1 we _).trans (ke.below (Nat.le_refl _)))
  have Qe := Lib.hid qe
  clear qe ke
  have B6 := Lib.hid (bel_trans B5.out Ke.out)
  have P6 := Lib.hid (P5.out.below Ke.out P5.out.lt)
  have M6 := Lib.hid (M5.out.below Ke.out M5.out.lt)
  generalize we.heap.size = xb at Qe ⊢
  have X6 := Qe
  clear Ke
  replace X6 := Lib.hid (show RBlk _ xb 0 0 0 0 zz by rw [← HZZ.out]; exact X6.out)
  go_upto_region 12 with fail
  go_step
  refine list_val (by rfl) (.int .i64 160) (by go_simp) ?_
  simp only [Act.put, List.setIfInBounds_toArray, List.set_cons_succ, List.set_cons_zero]
  refine list_val (by rfl) (.bool true) (by go_simp) ?_
  simp only [Act.put, List.setIfInBounds_toArray, List.set_cons_succ, List.set_cons_zero]
  refine list_val (by rfl) (.bool true) (by go_simp) ?_
  simp only [Act.put, List.setIfInBounds_toArray, List.set_cons_succ, List.set_cons_zero]
  refine list_loadR (by rfl) (.tmp 21) rfl xb rfl 0 0 0 0 zz X6.out ?_
  simp only [Act.put, List.setIfInBounds_toArray, List.set_cons_succ, List.set_cons_zero]
  refine list_build (by rfl) 35 _ rfl [] (by rfl) _ BZ.out ?_
  simp only [Act.put, List.setIfInBounds_toArray, List.set_cons_succ, List.set_cons_zero]
  go_wp2_with fail
  go_ret
  exact ⟨rfl, B6.out⟩
set_option maxRecDepth 100000 in
set_option maxHeartbeats 8000000 in
theorem reads_mlow (line one two alias r p q m0 m1 m2 : Int) (w : World) (hk : Hid (KeysAt w)) (pa : Int) (hs1 : Hid (secB one = true)) (hpa : Hid (powZ 4 one = pa)) (pb key : Int) (hs2 : Hid (secB two = true)) (hpb : Hid (powZ 4 two = pb)) (he1 : Hid (elB pa = true)) (he2 : Hid (elB pb = true)) (hkey : Hid (mulZ pa pb = key)) (hke : Hid (elB key = true)) (ln : Hid (0 ≤ line ∧ line < 64)) (al : Hid (alias < 1)) :
    Calls Tryd.prog 3 #[.int .i64 line, .int .i64 one, .int .i64 two, .int .i64 alias, .int .i64 r, .agg #[.int .i64 p, .int .i64 q], .agg #[.int .i64 m0, .int .i64 m1, .int .i64 m2]] w fun e w' => e = .returned (.bool true) ∧ Below w.heap.size w w' := by
  have t1 : ¬ line < 0 := by have := ln.out; omega
  have t2 : ¬ line ≥ 64 := by have := ln.out; omega
  have t2b : line < 64 := by omega
  have t3 : alias < 1 := al.out
  have hl := Lib.hid (lineB_iff.2 ln.out)
  have hw := Lib.hid (show wordB alias = false by unfold wordB; simp; have := al.out; omega)
  obtain ⟨zz, hzz⟩ : ∃ zz, List.replicate 32 (0 : Int) = zz := ⟨_, rfl⟩
  have EQZ := eqRt_same 0 0 0 0 zz (by rw [← hzz]; rfl)
  have BZ := Lib.hid (show Tryd.prog.built 35 [] = some (rtv 0 0 0 0 zz).toArray by rw [← hzz]; exact built_r0)
  have HZZ := Lib.hid hzz
  clear hzz
  have P0 := Lib.hid ((Blk.new w #[.int .i64 p, .int .i64 q] 22).alloc (.cells #[.int .i64 m0, .int .i64 m1, .int .i64 m2] 23))
  have M0 := Lib.hid (show Blk ((w.alloc (.cells #[.int .i64 p, .int .i64 q] 22)).alloc (.cells #[.int .i64 m0, .int .i64 m1, .int .i64 m2] 23)) (w.heap.size + 1) #[.int .i64 m0, .int .i64 m1, .int .i64 m2] 23 by have := Blk.new (w.alloc (.cells #[.int .i64 p, .int .i64 q] 22)) #[.int .i64 m0, .int .i64 m1, .int .i64 m2] 23; simpa using this)
  have B0 := Lib.hid (show Below w.heap.size w ((w.alloc (.cells #[.int .i64 p, .int .i64 q] 22)).alloc (.cells #[.int .i64 m0, .int .i64 m1, .int .i64 m2] 23)) from (bel_alloc1 w _).alloc (by simp) _)
  go_enter Tryd.func3, Tryd.ntmps3
  go_wp2_with (first
    | (go_at_call 5; with_reducible refine (sane16_any _ (Lib.hid (hk.out.below B0.out))).mono ?_; rintro e wa ⟨rfl, hb⟩; have B1 := Lib.hid (bel_trans B0.out hb); have P1 := Lib.hid (P0.out.below hb P0.out.lt); have M1 := Lib.hid (M0.out.below hb M0.out.lt); clear hb)
    | (go_at_call 6; with_reducible refine (pub_ok one pa _ hs1 hpa).mono ?_; rintro e wb ⟨rfl, hb⟩; have B2 := Lib.hid (bel_trans B1.out hb); have P2 := Lib.hid (P1.out.below hb P1.out.lt); have M2 := Lib.hid (M1.out.below hb M1.out.lt); clear hb)
    | (go_at_call 6; with_reducible refine (pub_ok two pb _ hs2 hpb).mono ?_; rintro e wc ⟨rfl, hb⟩; have B3 := Lib.hid (bel_trans B2.out hb); have P3 := Lib.hid (P2.out.below hb P2.out.lt); have M3 := Lib.hid (M2.out.below hb M2.out.lt); clear hb)
    | (go_at_call 7; refine (join2 pa pb key wc he1 he2 hkey).mono ?_; rintro e wd ⟨rfl, hb⟩; have B4 := Lib.hid (bel_trans B3.out hb); have P4 := Lib.hid (P3.out.below hb P3.out.lt); have M4 := Lib.hid (M3.out.below hb M3.out.lt); clear hb)
    | (go_at_call 8; with_reducible refine (omake_word line key alias r _ hl hke hw).mono ?_; rintro e we ⟨rfl, hb⟩; have B5 := Lib.hid (bel_trans B4.out hb); have P5 := Lib.hid (P4.out.below hb P4.out.lt); have M5 := Lib.hid (M4.out.below hb M4.out.lt); clear hb)
    | (refine list_storeR rfl (.tmp 21) (.tmp 69) rfl we.heap.size rfl 0 0 0 0 (List.replicate 32 0) rfl rfl 0 0 0 0 (List.replicate 32 0) (RBlk.new we) ?_)
  )
  intro we' qe ke
  have Ke := Lib.hid ((bel_alloc1 we _).trans (ke.below (Nat.le_refl _)))
  have Qe := Lib.hid qe
  clear qe ke
  have B6 := Lib.hid (bel_trans B5.out Ke.out)
  have P6 := Lib.hid (P5.out.below Ke.out P5.out.lt)
  have M6 := Lib.hid (M5.out.below Ke.out M5.out.lt)
  generalize we.heap.size = xb at Qe ⊢
  have X6 := Qe
  clear Ke
  replace X6 := Lib.hid (show RBlk _ xb 0 0 0 0 zz by rw [← HZZ.out]; exact X6.out)
  go_upto_region 12 with fail
  go_step
  refine list_val (by rfl) (.int .i64 160) (by go_simp) ?_
  simp only [Act.put, List.setIfInBounds_toArray, List.set_cons_succ, List.set_cons_zero]
  refine list_val (by rfl) (.bool true) (by go_simp) ?_
  simp only [Act.put, List.setIfInBounds_toArray, List.set_cons_succ, List.set_cons_zero]
  refine list_val (by rfl) (.bool true) (by go_simp) ?_
  simp only [Act.put, List.setIfInBounds_toArray, List.set_cons_succ, List.set_cons_zero]
  refine list_loadR (by rfl) (.tmp 21) rfl xb rfl 0 0 0 0 zz X6.out ?_
  simp only [Act.put, List.setIfInBounds_toArray, List.set_cons_succ, List.set_cons_zero]
  refine list_build (by rfl) 35 _ rfl [] (by rfl) _ BZ.out ?_
  simp only [Act.put, List.setIfInBounds_toArray, List.set_cons_succ, List.set_cons_zero]
  go_wp2_with fail
  go_ret
  exact ⟨rfl, B6.out⟩
set_option maxRecDepth 100000 in
set_option maxHeartbeats 8000000 in
theorem reads_mhigh (line one two alias r p q m0 m1 m2 : Int) (w : World) (hk : Hid (KeysAt w)) (pa : Int) (hs1 : Hid (secB one = true)) (hpa : Hid (powZ 4 one = pa)) (pb key : Int) (hs2 : Hid (secB two = true)) (hpb : Hid (powZ 4 two = pb)) (he1 : Hid (elB pa = true)) (he2 : Hid (elB pb = true)) (hkey : Hid (mulZ pa pb = key)) (hke : Hid (elB key = true)) (ln : Hid (0 ≤ line ∧ line < 64)) (al : Hid (1073741789 < alias)) :
    Calls Tryd.prog 3 #[.int .i64 line, .int .i64 one, .int .i64 two, .int .i64 alias, .int .i64 r, .agg #[.int .i64 p, .int .i64 q], .agg #[.int .i64 m0, .int .i64 m1, .int .i64 m2]] w fun e w' => e = .returned (.bool true) ∧ Below w.heap.size w w' := by
  have t1 : ¬ line < 0 := by have := ln.out; omega
  have t2 : ¬ line ≥ 64 := by have := ln.out; omega
  have t2b : line < 64 := by omega
  have t3 : ¬ alias < 1 := by have := al.out; omega
  have t4 : alias > 1073741789 := al.out
  have t4b : 1073741789 < alias := al.out
  have hl := Lib.hid (lineB_iff.2 ln.out)
  have hw := Lib.hid (show wordB alias = false by unfold wordB; simp; have := al.out; omega)
  obtain ⟨zz, hzz⟩ : ∃ zz, List.replicate 32 (0 : Int) = zz := ⟨_, rfl⟩
  have EQZ := eqRt_same 0 0 0 0 zz (by rw [← hzz]; rfl)
  have BZ := Lib.hid (show Tryd.prog.built 35 [] = some (rtv 0 0 0 0 zz).toArray by rw [← hzz]; exact built_r0)
  have HZZ := Lib.hid hzz
  clear hzz
  have P0 := Lib.hid ((Blk.new w #[.int .i64 p, .int .i64 q] 22).alloc (.cells #[.int .i64 m0, .int .i64 m1, .int .i64 m2] 23))
  have M0 := Lib.hid (show Blk ((w.alloc (.cells #[.int .i64 p, .int .i64 q] 22)).alloc (.cells #[.int .i64 m0, .int .i64 m1, .int .i64 m2] 23)) (w.heap.size + 1) #[.int .i64 m0, .int .i64 m1, .int .i64 m2] 23 by have := Blk.new (w.alloc (.cells #[.int .i64 p, .int .i64 q] 22)) #[.int .i64 m0, .int .i64 m1, .int .i64 m2] 23; simpa using this)
  have B0 := Lib.hid (show Below w.heap.size w ((w.alloc (.cells #[.int .i64 p, .int .i64 q] 22)).alloc (.cells #[.int .i64 m0, .int .i64 m1, .int .i64 m2] 23)) from (bel_alloc1 w _).alloc (by simp) _)
  go_enter Tryd.func3, Tryd.ntmps3
  go_wp2_with (first
    | (go_at_call 5; with_reducible refine (sane16_any _ (Lib.hid (hk.out.below B0.out))).mono ?_; rintro e wa ⟨rfl, hb⟩; have B1 := Lib.hid (bel_trans B0.out hb); have P1 := Lib.hid (P0.out.below hb P0.out.lt); have M1 := Lib.hid (M0.out.below hb M0.out.lt); clear hb)
    | (go_at_call 6; with_reducible refine (pub_ok one pa _ hs1 hpa).mono ?_; rintro e wb ⟨rfl, hb⟩; have B2 := Lib.hid (bel_trans B1.out hb); have P2 := Lib.hid (P1.out.below hb P1.out.lt); have M2 := Lib.hid (M1.out.below hb M1.out.lt); clear hb)
    | (go_at_call 6; with_reducible refine (pub_ok two pb _ hs2 hpb).mono ?_; rintro e wc ⟨rfl, hb⟩; have B3 := Lib.hid (bel_trans B2.out hb); have P3 := Lib.hid (P2.out.below hb P2.out.lt); have M3 := Lib.hid (M2.out.below hb M2.out.lt); clear hb)
    | (go_at_call 7; refine (join2 pa pb key wc he1 he2 hkey).mono ?_; rintro e wd ⟨rfl, hb⟩; have B4 := Lib.hid (bel_trans B3.out hb); have P4 := Lib.hid (P3.out.below hb P3.out.lt); have M4 := Lib.hid (M3.out.below hb M3.out.lt); clear hb)
    | (go_at_call 8; with_reducible refine (omake_word line key alias r _ hl hke hw).mono ?_; rintro e we ⟨rfl, hb⟩; have B5 := Lib.hid (bel_trans B4.out hb); have P5 := Lib.hid (P4.out.below hb P4.out.lt); have M5 := Lib.hid (M4.out.below hb M4.out.lt); clear hb)
    | (refine list_storeR rfl (.tmp 21) (.tmp 69) rfl we.heap.size rfl 0 0 0 0 (List.replicate 32 0) rfl rfl 0 0 0 0 (List.replicate 32 0) (RBlk.new we) ?_)
  )
  intro we' qe ke
  have Ke := Lib.hid ((bel_alloc1 we _).trans (ke.below (Nat.le_refl _)))
  have Qe := Lib.hid qe
  clear qe ke
  have B6 := Lib.hid (bel_trans B5.out Ke.out)
  have P6 := Lib.hid (P5.out.below Ke.out P5.out.lt)
  have M6 := Lib.hid (M5.out.below Ke.out M5.out.lt)
  generalize we.heap.size = xb at Qe ⊢
  have X6 := Qe
  clear Ke
  replace X6 := Lib.hid (show RBlk _ xb 0 0 0 0 zz by rw [← HZZ.out]; exact X6.out)
  go_upto_region 12 with fail
  go_step
  refine list_val (by rfl) (.int .i64 160) (by go_simp) ?_
  simp only [Act.put, List.setIfInBounds_toArray, List.set_cons_succ, List.set_cons_zero]
  refine list_val (by rfl) (.bool true) (by go_simp) ?_
  simp only [Act.put, List.setIfInBounds_toArray, List.set_cons_succ, List.set_cons_zero]
  refine list_val (by rfl) (.bool true) (by go_simp) ?_
  simp only [Act.put, List.setIfInBounds_toArray, List.set_cons_succ, List.set_cons_zero]
  refine list_loadR (by rfl) (.tmp 21) rfl xb rfl 0 0 0 0 zz X6.out ?_
  simp only [Act.put, List.setIfInBounds_toArray, List.set_cons_succ, List.set_cons_zero]
  refine list_build (by rfl) 35 _ rfl [] (by rfl) _ BZ.out ?_
  simp only [Act.put, List.setIfInBounds_toArray, List.set_cons_succ, List.set_cons_zero]
  go_wp2_with fail
  go_ret
  exact ⟨rfl, B6.out⟩
set_option maxRecDepth 100000 in
set_option maxHeartbeats 8000000 in
theorem reads_uplow (line one two alias r p q m0 m1 m2 : Int) (w : World) (hk : Hid (KeysAt w)) (pa : Int) (hs1 : Hid (secB one = true)) (hpa : Hid (powZ 4 one = pa)) (pb key : Int) (hs2 : Hid (secB two = true)) (hpb : Hid (powZ 4 two = pb)) (he1 : Hid (elB pa = true)) (he2 : Hid (elB pb = true)) (hkey : Hid (mulZ pa pb = key)) (hke : Hid (elB key = true)) (hl : Hid (lineB line = true)) (hwa : Hid (wordB alias = true)) (xa xb0 : Int) (ds : List Int) (hcx : Hid (IsCip key (elmZ alias) r xa xb0)) (hds : Hid (IsTag line key xa xb0 ds)) (hdl : Hid (ds.length = 32)) (hrc : Hid (IsRC line key xa xb0 ds 0)) (wl : Hid (p < 1)) :
    Calls Tryd.prog 3 #[.int .i64 line, .int .i64 one, .int .i64 two, .int .i64 alias, .int .i64 r, .agg #[.int .i64 p, .int .i64 q], .agg #[.int .i64 m0, .int .i64 m1, .int .i64 m2]] w fun e w' => e = .returned (.bool true) ∧ Below w.heap.size w w' := by
  have t1 : p < 1 := wl.out
  have hp := Lib.hid (show wordB p = false by unfold wordB; simp; have := wl.out; omega)
  have P0 := Lib.hid ((Blk.new w #[.int .i64 p, .int .i64 q] 22).alloc (.cells #[.int .i64 m0, .int .i64 m1, .int .i64 m2] 23))
  have M0 := Lib.hid (show Blk ((w.alloc (.cells #[.int .i64 p, .int .i64 q] 22)).alloc (.cells #[.int .i64 m0, .int .i64 m1, .int .i64 m2] 23)) (w.heap.size + 1) #[.int .i64 m0, .int .i64 m1, .int .i64 m2] 23 by have := Blk.new (w.alloc (.cells #[.int .i64 p, .int .i64 q] 22)) #[.int .i64 m0, .int .i64 m1, .int .i64 m2] 23; simpa using this)
  have B0 := Lib.hid (show Below w.heap.size w ((w.alloc (.cells #[.int .i64 p, .int .i64 q] 22)).alloc (.cells #[.int .i64 m0, .int .i64 m1, .int .i64 m2] 23)) from (bel_alloc1 w _).alloc (by simp) _)
  go_enter Tryd.func3, Tryd.ntmps3
  go_wp2_with (first
    | (go_at_call 5; with_reducible refine (sane16_any _ (Lib.hid (hk.out.below B0.out))).mono ?_; rintro e wa ⟨rfl, hb⟩; have B1 := Lib.hid (bel_trans B0.out hb); have P1 := Lib.hid (P0.out.below hb P0.out.lt); have M1 := Lib.hid (M0.out.below hb M0.out.lt); clear hb)
    | (go_at_call 6; with_reducible refine (pub_ok one pa _ hs1 hpa).mono ?_; rintro e wb ⟨rfl, hb⟩; have B2 := Lib.hid (bel_trans B1.out hb); have P2 := Lib.hid (P1.out.below hb P1.out.lt); have M2 := Lib.hid (M1.out.below hb M1.out.lt); clear hb)
    | (go_at_call 6; with_reducible refine (pub_ok two pb _ hs2 hpb).mono ?_; rintro e wc ⟨rfl, hb⟩; have B3 := Lib.hid (bel_trans B2.out hb); have P3 := Lib.hid (P2.out.below hb P2.out.lt); have M3 := Lib.hid (M2.out.below hb M2.out.lt); clear hb)
    | (go_at_call 7; refine (join2 pa pb key wc he1 he2 hkey).mono ?_; rintro e wd ⟨rfl, hb⟩; have B4 := Lib.hid (bel_trans B3.out hb); have P4 := Lib.hid (P3.out.below hb P3.out.lt); have M4 := Lib.hid (M3.out.below hb M3.out.lt); clear hb)
    | (go_at_call 8; with_reducible refine (omake_ok line key alias r _ hl hke hwa xa xb0 ds hcx hds (Lib.hid (hk.out.below B4.out))).mono ?_; rintro e we ⟨rfl, hb⟩; have B5 := Lib.hid (bel_trans B4.out hb); have P5 := Lib.hid (P4.out.below hb P4.out.lt); have M5 := Lib.hid (M4.out.below hb M4.out.lt); clear hb)
    | (refine list_storeR rfl (.tmp 21) (.tmp 69) rfl we.heap.size rfl line key xa xb0 ds rfl hdl.out 0 0 0 0 (List.replicate 32 0) (RBlk.new we) ?_)
  )
  intro we' qe ke
  have Ke := Lib.hid ((bel_alloc1 we _).trans (ke.below (Nat.le_refl _)))
  have Qe := Lib.hid qe
  clear qe ke
  have B6 := Lib.hid (bel_trans B5.out Ke.out)
  have P6 := Lib.hid (P5.out.below Ke.out P5.out.lt)
  have M6 := Lib.hid (M5.out.below Ke.out M5.out.lt)
  generalize we.heap.size = xb at Qe ⊢
  have X6 := Qe
  clear Ke
  have p0 := P6.out.cell 0
  have p1 := P6.out.cell 1
  have m0c := M6.out.cell 0
  have m1c := M6.out.cell 1
  have m2c := M6.out.cell 2
  go_upto_region 14 with (first
    | (refine list_loadR (by rfl) (.tmp 21) rfl xb rfl line key xa xb0 ds X6.out ?_)
    | (go_at_call 9; with_reducible refine (ouse_w0 line key xa xb0 ds p q m0 m1 m2 _ hdl (Lib.hid (hk.out.below B6.out)) hrc hp).mono ?_; rintro e wf ⟨rfl, hb⟩; have B7 := Lib.hid (bel_trans B6.out hb); have P7 := Lib.hid (P6.out.below hb P6.out.lt); have M7 := Lib.hid (M6.out.below hb M6.out.lt); have X7 := Lib.hid (X6.out.bel hb); clear hb)
  )
  clear p0 p1 m0c m1c m2c
  have Kwf := Lib.hid (bel_alloc1 wf (.cells #[.int .i64 0, .int .i64 0, .int .i64 0, .int .i64 0, .int .i64 0, .int .i64 0] 39))
  have Qwf := Lib.hid (Blk.new wf #[.int .i64 0, .int .i64 0, .int .i64 0, .int .i64 0, .int .i64 0, .int .i64 0] 39)
  generalize World.alloc wf _ = wf' at Kwf Qwf ⊢
  generalize wf.heap.size = sb at Qwf ⊢
  have B8 := Lib.hid (bel_trans B7.out Kwf.out)
  have P8 := Lib.hid (P7.out.below Kwf.out P7.out.lt)
  have M8 := Lib.hid (M7.out.below Kwf.out M7.out.lt)
  have X8 := Lib.hid (X7.out.bel Kwf.out)
  have S8 := Qwf
  clear Kwf
  have p0 := P8.out.cell 0
  have p1 := P8.out.cell 1
  have m0c := M8.out.cell 0
  have m1c := M8.out.cell 1
  have m2c := M8.out.cell 2
  have s0 := S8.out.cell 0
  have s1 := S8.out.cell 1
  have s2 := S8.out.cell 2
  have s3 := S8.out.cell 3
  have s4 := S8.out.cell 4
  have s5 := S8.out.cell 5
  go_wp2_with fail
  go_ret
  exact ⟨rfl, B8.out⟩
set_option maxRecDepth 100000 in
set_option maxHeartbeats 8000000 in
theorem reads_uphigh (line one two alias r p q m0 m1 m2 : Int) (w : World) (hk : Hid (KeysAt w)) (pa : Int) (hs1 : Hid (secB one = true)) (hpa : Hid (powZ 4 one = pa)) (pb key : Int) (hs2 : Hid (secB two = true)) (hpb : Hid (powZ 4 two = pb)) (he1 : Hid (elB pa = true)) (he2 : Hid (elB pb = true)) (hkey : Hid (mulZ pa pb = key)) (hke : Hid (elB key = true)) (hl : Hid (lineB line = true)) (hwa : Hid (wordB alias = true)) (xa xb0 : Int) (ds : List Int) (hcx : Hid (IsCip key (elmZ alias) r xa xb0)) (hds : Hid (IsTag line key xa xb0 ds)) (hdl : Hid (ds.length = 32)) (hrc : Hid (IsRC line key xa xb0 ds 0)) (wl : Hid (1073741789 < p)) :
    Calls Tryd.prog 3 #[.int .i64 line, .int .i64 one, .int .i64 two, .int .i64 alias, .int .i64 r, .agg #[.int .i64 p, .int .i64 q], .agg #[.int .i64 m0, .int .i64 m1, .int .i64 m2]] w fun e w' => e = .returned (.bool true) ∧ Below w.heap.size w w' := by
  have t1 : ¬ p < 1 := by have := wl.out; omega
  have t2 : p > 1073741789 := wl.out
  have t2b : 1073741789 < p := wl.out
  have hp := Lib.hid (show wordB p = false by unfold wordB; simp; have := wl.out; omega)
  have P0 := Lib.hid ((Blk.new w #[.int .i64 p, .int .i64 q] 22).alloc (.cells #[.int .i64 m0, .int .i64 m1, .int .i64 m2] 23))
  have M0 := Lib.hid (show Blk ((w.alloc (.cells #[.int .i64 p, .int .i64 q] 22)).alloc (.cells #[.int .i64 m0, .int .i64 m1, .int .i64 m2] 23)) (w.heap.size + 1) #[.int .i64 m0, .int .i64 m1, .int .i64 m2] 23 by have := Blk.new (w.alloc (.cells #[.int .i64 p, .int .i64 q] 22)) #[.int .i64 m0, .int .i64 m1, .int .i64 m2] 23; simpa using this)
  have B0 := Lib.hid (show Below w.heap.size w ((w.alloc (.cells #[.int .i64 p, .int .i64 q] 22)).alloc (.cells #[.int .i64 m0, .int .i64 m1, .int .i64 m2] 23)) from (bel_alloc1 w _).alloc (by simp) _)
  go_enter Tryd.func3, Tryd.ntmps3
  go_wp2_with (first
    | (go_at_call 5; with_reducible refine (sane16_any _ (Lib.hid (hk.out.below B0.out))).mono ?_; rintro e wa ⟨rfl, hb⟩; have B1 := Lib.hid (bel_trans B0.out hb); have P1 := Lib.hid (P0.out.below hb P0.out.lt); have M1 := Lib.hid (M0.out.below hb M0.out.lt); clear hb)
    | (go_at_call 6; with_reducible refine (pub_ok one pa _ hs1 hpa).mono ?_; rintro e wb ⟨rfl, hb⟩; have B2 := Lib.hid (bel_trans B1.out hb); have P2 := Lib.hid (P1.out.below hb P1.out.lt); have M2 := Lib.hid (M1.out.below hb M1.out.lt); clear hb)
    | (go_at_call 6; with_reducible refine (pub_ok two pb _ hs2 hpb).mono ?_; rintro e wc ⟨rfl, hb⟩; have B3 := Lib.hid (bel_trans B2.out hb); have P3 := Lib.hid (P2.out.below hb P2.out.lt); have M3 := Lib.hid (M2.out.below hb M2.out.lt); clear hb)
    | (go_at_call 7; refine (join2 pa pb key wc he1 he2 hkey).mono ?_; rintro e wd ⟨rfl, hb⟩; have B4 := Lib.hid (bel_trans B3.out hb); have P4 := Lib.hid (P3.out.below hb P3.out.lt); have M4 := Lib.hid (M3.out.below hb M3.out.lt); clear hb)
    | (go_at_call 8; with_reducible refine (omake_ok line key alias r _ hl hke hwa xa xb0 ds hcx hds (Lib.hid (hk.out.below B4.out))).mono ?_; rintro e we ⟨rfl, hb⟩; have B5 := Lib.hid (bel_trans B4.out hb); have P5 := Lib.hid (P4.out.below hb P4.out.lt); have M5 := Lib.hid (M4.out.below hb M4.out.lt); clear hb)
    | (refine list_storeR rfl (.tmp 21) (.tmp 69) rfl we.heap.size rfl line key xa xb0 ds rfl hdl.out 0 0 0 0 (List.replicate 32 0) (RBlk.new we) ?_)
  )
  intro we' qe ke
  have Ke := Lib.hid ((bel_alloc1 we _).trans (ke.below (Nat.le_refl _)))
  have Qe := Lib.hid qe
  clear qe ke
  have B6 := Lib.hid (bel_trans B5.out Ke.out)
  have P6 := Lib.hid (P5.out.below Ke.out P5.out.lt)
  have M6 := Lib.hid (M5.out.below Ke.out M5.out.lt)
  generalize we.heap.size = xb at Qe ⊢
  have X6 := Qe
  clear Ke
  have p0 := P6.out.cell 0
  have p1 := P6.out.cell 1
  have m0c := M6.out.cell 0
  have m1c := M6.out.cell 1
  have m2c := M6.out.cell 2
  go_upto_region 14 with (first
    | (refine list_loadR (by rfl) (.tmp 21) rfl xb rfl line key xa xb0 ds X6.out ?_)
    | (go_at_call 9; with_reducible refine (ouse_w0 line key xa xb0 ds p q m0 m1 m2 _ hdl (Lib.hid (hk.out.below B6.out)) hrc hp).mono ?_; rintro e wf ⟨rfl, hb⟩; have B7 := Lib.hid (bel_trans B6.out hb); have P7 := Lib.hid (P6.out.below hb P6.out.lt); have M7 := Lib.hid (M6.out.below hb M6.out.lt); have X7 := Lib.hid (X6.out.bel hb); clear hb)
  )
  clear p0 p1 m0c m1c m2c
  have Kwf := Lib.hid (bel_alloc1 wf (.cells #[.int .i64 0, .int .i64 0, .int .i64 0, .int .i64 0, .int .i64 0, .int .i64 0] 39))
  have Qwf := Lib.hid (Blk.new wf #[.int .i64 0, .int .i64 0, .int .i64 0, .int .i64 0, .int .i64 0, .int .i64 0] 39)
  generalize World.alloc wf _ = wf' at Kwf Qwf ⊢
  generalize wf.heap.size = sb at Qwf ⊢
  have B8 := Lib.hid (bel_trans B7.out Kwf.out)
  have P8 := Lib.hid (P7.out.below Kwf.out P7.out.lt)
  have M8 := Lib.hid (M7.out.below Kwf.out M7.out.lt)
  have X8 := Lib.hid (X7.out.bel Kwf.out)
  have S8 := Qwf
  clear Kwf
  have p0 := P8.out.cell 0
  have p1 := P8.out.cell 1
  have m0c := M8.out.cell 0
  have m1c := M8.out.cell 1
  have m2c := M8.out.cell 2
  have s0 := S8.out.cell 0
  have s1 := S8.out.cell 1
  have s2 := S8.out.cell 2
  have s3 := S8.out.cell 3
  have s4 := S8.out.cell 4
  have s5 := S8.out.cell 5
  go_wp2_with fail
  go_ret
  exact ⟨rfl, B8.out⟩
set_option maxRecDepth 100000 in
set_option maxHeartbeats 8000000 in
theorem reads_uqlow (line one two alias r p q m0 m1 m2 : Int) (w : World) (hk : Hid (KeysAt w)) (pa : Int) (hs1 : Hid (secB one = true)) (hpa : Hid (powZ 4 one = pa)) (pb key : Int) (hs2 : Hid (secB two = true)) (hpb : Hid (powZ 4 two = pb)) (he1 : Hid (elB pa = true)) (he2 : Hid (elB pb = true)) (hkey : Hid (mulZ pa pb = key)) (hke : Hid (elB key = true)) (hl : Hid (lineB line = true)) (hwa : Hid (wordB alias = true)) (xa xb0 : Int) (ds : List Int) (hcx : Hid (IsCip key (elmZ alias) r xa xb0)) (hds : Hid (IsTag line key xa xb0 ds)) (hdl : Hid (ds.length = 32)) (hrc : Hid (IsRC line key xa xb0 ds 0)) (hp : Hid (wordB p = true)) (wl : Hid (q < 1)) :
    Calls Tryd.prog 3 #[.int .i64 line, .int .i64 one, .int .i64 two, .int .i64 alias, .int .i64 r, .agg #[.int .i64 p, .int .i64 q], .agg #[.int .i64 m0, .int .i64 m1, .int .i64 m2]] w fun e w' => e = .returned (.bool true) ∧ Below w.heap.size w w' := by
  have hp1 := wordB_iff.1 hp.out
  have t1 : ¬ p < 1 := by omega
  have t2 : ¬ p > 1073741789 := by omega
  have t2b : ¬ 1073741789 < p := by omega
  have t3 : q < 1 := wl.out
  have hq := Lib.hid (show wordB q = false by unfold wordB; simp; have := wl.out; omega)
  clear hp1
  have P0 := Lib.hid ((Blk.new w #[.int .i64 p, .int .i64 q] 22).alloc (.cells #[.int .i64 m0, .int .i64 m1, .int .i64 m2] 23))
  have M0 := Lib.hid (show Blk ((w.alloc (.cells #[.int .i64 p, .int .i64 q] 22)).alloc (.cells #[.int .i64 m0, .int .i64 m1, .int .i64 m2] 23)) (w.heap.size + 1) #[.int .i64 m0, .int .i64 m1, .int .i64 m2] 23 by have := Blk.new (w.alloc (.cells #[.int .i64 p, .int .i64 q] 22)) #[.int .i64 m0, .int .i64 m1, .int .i64 m2] 23; simpa using this)
  have B0 := Lib.hid (show Below w.heap.size w ((w.alloc (.cells #[.int .i64 p, .int .i64 q] 22)).alloc (.cells #[.int .i64 m0, .int .i64 m1, .int .i64 m2] 23)) from (bel_alloc1 w _).alloc (by simp) _)
  go_enter Tryd.func3, Tryd.ntmps3
  go_wp2_with (first
    | (go_at_call 5; with_reducible refine (sane16_any _ (Lib.hid (hk.out.below B0.out))).mono ?_; rintro e wa ⟨rfl, hb⟩; have B1 := Lib.hid (bel_trans B0.out hb); have P1 := Lib.hid (P0.out.below hb P0.out.lt); have M1 := Lib.hid (M0.out.below hb M0.out.lt); clear hb)
    | (go_at_call 6; with_reducible refine (pub_ok one pa _ hs1 hpa).mono ?_; rintro e wb ⟨rfl, hb⟩; have B2 := Lib.hid (bel_trans B1.out hb); have P2 := Lib.hid (P1.out.below hb P1.out.lt); have M2 := Lib.hid (M1.out.below hb M1.out.lt); clear hb)
    | (go_at_call 6; with_reducible refine (pub_ok two pb _ hs2 hpb).mono ?_; rintro e wc ⟨rfl, hb⟩; have B3 := Lib.hid (bel_trans B2.out hb); have P3 := Lib.hid (P2.out.below hb P2.out.lt); have M3 := Lib.hid (M2.out.below hb M2.out.lt); clear hb)
    | (go_at_call 7; refine (join2 pa pb key wc he1 he2 hkey).mono ?_; rintro e wd ⟨rfl, hb⟩; have B4 := Lib.hid (bel_trans B3.out hb); have P4 := Lib.hid (P3.out.below hb P3.out.lt); have M4 := Lib.hid (M3.out.below hb M3.out.lt); clear hb)
    | (go_at_call 8; with_reducible refine (omake_ok line key alias r _ hl hke hwa xa xb0 ds hcx hds (Lib.hid (hk.out.below B4.out))).mono ?_; rintro e we ⟨rfl, hb⟩; have B5 := Lib.hid (bel_trans B4.out hb); have P5 := Lib.hid (P4.out.below hb P4.out.lt); have M5 := Lib.hid (M4.out.below hb M4.out.lt); clear hb)
    | (refine list_storeR rfl (.tmp 21) (.tmp 69) rfl we.heap.size rfl line key xa xb0 ds rfl hdl.out 0 0 0 0 (List.replicate 32 0) (RBlk.new we) ?_)
  )
  intro we' qe ke
  have Ke := Lib.hid ((bel_alloc1 we _).trans (ke.below (Nat.le_refl _)))
  have Qe := Lib.hid qe
  clear qe ke
  have B6 := Lib.hid (bel_trans B5.out Ke.out)
  have P6 := Lib.hid (P5.out.below Ke.out P5.out.lt)
  have M6 := Lib.hid (M5.out.below Ke.out M5.out.lt)
  generalize we.heap.size = xb at Qe ⊢
  have X6 := Qe
  clear Ke
  have p0 := P6.out.cell 0
  have p1 := P6.out.cell 1
  have m0c := M6.out.cell 0
  have m1c := M6.out.cell 1
  have m2c := M6.out.cell 2
  go_upto_region 14 with (first
    | (refine list_loadR (by rfl) (.tmp 21) rfl xb rfl line key xa xb0 ds X6.out ?_)
    | (go_at_call 9; with_reducible refine (ouse_w1 line key xa xb0 ds p q m0 m1 m2 _ hdl (Lib.hid (hk.out.below B6.out)) hrc hp hq).mono ?_; rintro e wf ⟨rfl, hb⟩; have B7 := Lib.hid (bel_trans B6.out hb); have P7 := Lib.hid (P6.out.below hb P6.out.lt); have M7 := Lib.hid (M6.out.below hb M6.out.lt); have X7 := Lib.hid (X6.out.bel hb); clear hb)
  )
  clear p0 p1 m0c m1c m2c
  have Kwf := Lib.hid (bel_alloc1 wf (.cells #[.int .i64 0, .int .i64 0, .int .i64 0, .int .i64 0, .int .i64 0, .int .i64 0] 39))
  have Qwf := Lib.hid (Blk.new wf #[.int .i64 0, .int .i64 0, .int .i64 0, .int .i64 0, .int .i64 0, .int .i64 0] 39)
  generalize World.alloc wf _ = wf' at Kwf Qwf ⊢
  generalize wf.heap.size = sb at Qwf ⊢
  have B8 := Lib.hid (bel_trans B7.out Kwf.out)
  have P8 := Lib.hid (P7.out.below Kwf.out P7.out.lt)
  have M8 := Lib.hid (M7.out.below Kwf.out M7.out.lt)
  have X8 := Lib.hid (X7.out.bel Kwf.out)
  have S8 := Qwf
  clear Kwf
  have p0 := P8.out.cell 0
  have p1 := P8.out.cell 1
  have m0c := M8.out.cell 0
  have m1c := M8.out.cell 1
  have m2c := M8.out.cell 2
  have s0 := S8.out.cell 0
  have s1 := S8.out.cell 1
  have s2 := S8.out.cell 2
  have s3 := S8.out.cell 3
  have s4 := S8.out.cell 4
  have s5 := S8.out.cell 5
  go_wp2_with fail
  go_ret
  exact ⟨rfl, B8.out⟩
set_option maxRecDepth 100000 in
set_option maxHeartbeats 8000000 in
theorem reads_uqhigh (line one two alias r p q m0 m1 m2 : Int) (w : World) (hk : Hid (KeysAt w)) (pa : Int) (hs1 : Hid (secB one = true)) (hpa : Hid (powZ 4 one = pa)) (pb key : Int) (hs2 : Hid (secB two = true)) (hpb : Hid (powZ 4 two = pb)) (he1 : Hid (elB pa = true)) (he2 : Hid (elB pb = true)) (hkey : Hid (mulZ pa pb = key)) (hke : Hid (elB key = true)) (hl : Hid (lineB line = true)) (hwa : Hid (wordB alias = true)) (xa xb0 : Int) (ds : List Int) (hcx : Hid (IsCip key (elmZ alias) r xa xb0)) (hds : Hid (IsTag line key xa xb0 ds)) (hdl : Hid (ds.length = 32)) (hrc : Hid (IsRC line key xa xb0 ds 0)) (hp : Hid (wordB p = true)) (wl : Hid (1073741789 < q)) :
    Calls Tryd.prog 3 #[.int .i64 line, .int .i64 one, .int .i64 two, .int .i64 alias, .int .i64 r, .agg #[.int .i64 p, .int .i64 q], .agg #[.int .i64 m0, .int .i64 m1, .int .i64 m2]] w fun e w' => e = .returned (.bool true) ∧ Below w.heap.size w w' := by
  have hp1 := wordB_iff.1 hp.out
  have t1 : ¬ p < 1 := by omega
  have t2 : ¬ p > 1073741789 := by omega
  have t2b : ¬ 1073741789 < p := by omega
  have t3 : ¬ q < 1 := by have := wl.out; omega
  have t4 : q > 1073741789 := wl.out
  have t4b : 1073741789 < q := wl.out
  have hq := Lib.hid (show wordB q = false by unfold wordB; simp; have := wl.out; omega)
  clear hp1
  have P0 := Lib.hid ((Blk.new w #[.int .i64 p, .int .i64 q] 22).alloc (.cells #[.int .i64 m0, .int .i64 m1, .int .i64 m2] 23))
  have M0 := Lib.hid (show Blk ((w.alloc (.cells #[.int .i64 p, .int .i64 q] 22)).alloc (.cells #[.int .i64 m0, .int .i64 m1, .int .i64 m2] 23)) (w.heap.size + 1) #[.int .i64 m0, .int .i64 m1, .int .i64 m2] 23 by have := Blk.new (w.alloc (.cells #[.int .i64 p, .int .i64 q] 22)) #[.int .i64 m0, .int .i64 m1, .int .i64 m2] 23; simpa using this)
  have B0 := Lib.hid (show Below w.heap.size w ((w.alloc (.cells #[.int .i64 p, .int .i64 q] 22)).alloc (.cells #[.int .i64 m0, .int .i64 m1, .int .i64 m2] 23)) from (bel_alloc1 w _).alloc (by simp) _)
  go_enter Tryd.func3, Tryd.ntmps3
  go_wp2_with (first
    | (go_at_call 5; with_reducible refine (sane16_any _ (Lib.hid (hk.out.below B0.out))).mono ?_; rintro e wa ⟨rfl, hb⟩; have B1 := Lib.hid (bel_trans B0.out hb); have P1 := Lib.hid (P0.out.below hb P0.out.lt); have M1 := Lib.hid (M0.out.below hb M0.out.lt); clear hb)
    | (go_at_call 6; with_reducible refine (pub_ok one pa _ hs1 hpa).mono ?_; rintro e wb ⟨rfl, hb⟩; have B2 := Lib.hid (bel_trans B1.out hb); have P2 := Lib.hid (P1.out.below hb P1.out.lt); have M2 := Lib.hid (M1.out.below hb M1.out.lt); clear hb)
    | (go_at_call 6; with_reducible refine (pub_ok two pb _ hs2 hpb).mono ?_; rintro e wc ⟨rfl, hb⟩; have B3 := Lib.hid (bel_trans B2.out hb); have P3 := Lib.hid (P2.out.below hb P2.out.lt); have M3 := Lib.hid (M2.out.below hb M2.out.lt); clear hb)
    | (go_at_call 7; refine (join2 pa pb key wc he1 he2 hkey).mono ?_; rintro e wd ⟨rfl, hb⟩; have B4 := Lib.hid (bel_trans B3.out hb); have P4 := Lib.hid (P3.out.below hb P3.out.lt); have M4 := Lib.hid (M3.out.below hb M3.out.lt); clear hb)
    | (go_at_call 8; with_reducible refine (omake_ok line key alias r _ hl hke hwa xa xb0 ds hcx hds (Lib.hid (hk.out.below B4.out))).mono ?_; rintro e we ⟨rfl, hb⟩; have B5 := Lib.hid (bel_trans B4.out hb); have P5 := Lib.hid (P4.out.below hb P4.out.lt); have M5 := Lib.hid (M4.out.below hb M4.out.lt); clear hb)
    | (refine list_storeR rfl (.tmp 21) (.tmp 69) rfl we.heap.size rfl line key xa xb0 ds rfl hdl.out 0 0 0 0 (List.replicate 32 0) (RBlk.new we) ?_)
  )
  intro we' qe ke
  have Ke := Lib.hid ((bel_alloc1 we _).trans (ke.below (Nat.le_refl _)))
  have Qe := Lib.hid qe
  clear qe ke
  have B6 := Lib.hid (bel_trans B5.out Ke.out)
  have P6 := Lib.hid (P5.out.below Ke.out P5.out.lt)
  have M6 := Lib.hid (M5.out.below Ke.out M5.out.lt)
  generalize we.heap.size = xb at Qe ⊢
  have X6 := Qe
  clear Ke
  have p0 := P6.out.cell 0
  have p1 := P6.out.cell 1
  have m0c := M6.out.cell 0
  have m1c := M6.out.cell 1
  have m2c := M6.out.cell 2
  go_upto_region 14 with (first
    | (refine list_loadR (by rfl) (.tmp 21) rfl xb rfl line key xa xb0 ds X6.out ?_)
    | (go_at_call 9; with_reducible refine (ouse_w1 line key xa xb0 ds p q m0 m1 m2 _ hdl (Lib.hid (hk.out.below B6.out)) hrc hp hq).mono ?_; rintro e wf ⟨rfl, hb⟩; have B7 := Lib.hid (bel_trans B6.out hb); have P7 := Lib.hid (P6.out.below hb P6.out.lt); have M7 := Lib.hid (M6.out.below hb M6.out.lt); have X7 := Lib.hid (X6.out.bel hb); clear hb)
  )
  clear p0 p1 m0c m1c m2c
  have Kwf := Lib.hid (bel_alloc1 wf (.cells #[.int .i64 0, .int .i64 0, .int .i64 0, .int .i64 0, .int .i64 0, .int .i64 0] 39))
  have Qwf := Lib.hid (Blk.new wf #[.int .i64 0, .int .i64 0, .int .i64 0, .int .i64 0, .int .i64 0, .int .i64 0] 39)
  generalize World.alloc wf _ = wf' at Kwf Qwf ⊢
  generalize wf.heap.size = sb at Qwf ⊢
  have B8 := Lib.hid (bel_trans B7.out Kwf.out)
  have P8 := Lib.hid (P7.out.below Kwf.out P7.out.lt)
  have M8 := Lib.hid (M7.out.below Kwf.out M7.out.lt)
  have X8 := Lib.hid (X7.out.bel Kwf.out)
  have S8 := Qwf
  clear Kwf
  have p0 := P8.out.cell 0
  have p1 := P8.out.cell 1
  have m0c := M8.out.cell 0
  have m1c := M8.out.cell 1
  have m2c := M8.out.cell 2
  have s0 := S8.out.cell 0
  have s1 := S8.out.cell 1
  have s2 := S8.out.cell 2
  have s3 := S8.out.cell 3
  have s4 := S8.out.cell 4
  have s5 := S8.out.cell 5
  go_wp2_with fail
  go_ret
  exact ⟨rfl, B8.out⟩
set_option maxRecDepth 100000 in
set_option maxHeartbeats 8000000 in
theorem reads_main (line one two alias r p q m0 m1 m2 : Int) (w : World) (hk : Hid (KeysAt w)) (pa : Int) (hs1 : Hid (secB one = true)) (hpa : Hid (powZ 4 one = pa)) (pb key : Int) (hs2 : Hid (secB two = true)) (hpb : Hid (powZ 4 two = pb)) (he1 : Hid (elB pa = true)) (he2 : Hid (elB pb = true)) (hkey : Hid (mulZ pa pb = key)) (hke : Hid (elB key = true)) (hl : Hid (lineB line = true)) (hwa : Hid (wordB alias = true)) (xa xb0 : Int) (ds : List Int) (hcx : Hid (IsCip key (elmZ alias) r xa xb0)) (hds : Hid (IsTag line key xa xb0 ds)) (hdl : Hid (ds.length = 32)) (hrc : Hid (IsRC line key xa xb0 ds 0)) (hp : Hid (wordB p = true)) (hq : Hid (wordB q = true)) (hww : Hid (wordB 1 = true ∧ wordB p = true ∧ wordB q = true)) (a0 c0 a1 c1 a2 c2 A C : Int) (hc0 : Hid (IsCip key (elmZ 1) m0 a0 c0)) (hc1 : Hid (IsCip key (elmZ p) m1 a1 c1)) (hc2 : Hid (IsCip key (elmZ q) m2 a2 c2)) (hA : Hid (mulZ xa a0 = A)) (hC : Hid (mulZ xb0 c0 = C)) (hck : Hid (chkE A C a1 c1 a2 c2 = 0)) (d0 d1 d2 g0 g1 g2 e0 e1 e2 ru mu sx : Int) (HS1 : Hid (∀ g : World, Calls Tryd.prog 12 #[.int .i64 one, sealedV A C a1 c1 a2 c2] g fun e w' => e = .returned (.tuple #[sealedV A d0 a1 d1 a2 d2, .int .i64 0]) ∧ Below g.heap.size g w')) (HS2 : Hid (∀ g : World, Calls Tryd.prog 12 #[.int .i64 two, sealedV A d0 a1 d1 a2 d2] g fun e w' => e = .returned (.tuple #[sealedV A e0 a1 e1 a2 e2, .int .i64 0]) ∧ Below g.heap.size g w')) (HS3 : Hid (∀ g : World, Calls Tryd.prog 12 #[.int .i64 two, sealedV A C a1 c1 a2 c2] g fun e w' => e = .returned (.tuple #[sealedV A g0 a1 g1 a2 g2, .int .i64 0]) ∧ Below g.heap.size g w')) (HS4 : Hid (∀ g : World, Calls Tryd.prog 12 #[.int .i64 one, sealedV A g0 a1 g1 a2 g2] g fun e w' => e = .returned (.tuple #[sealedV A e0 a1 e1 a2 e2, .int .i64 0]) ∧ Below g.heap.size g w')) (HRD : Hid (∀ g : World, Calls Tryd.prog 13 #[sealedV A e0 a1 e1 a2 e2] g fun e w' => e = .returned (.tuple #[.agg #[.int .i64 alias, .int .i64 p, .int .i64 q], .int .i64 0]) ∧ Below g.heap.size g w')) (HSL : Hid (∀ g : World, Calls Tryd.prog 14 #[.int .i64 key, .agg #[.int .i64 alias, .int .i64 p, .int .i64 q], .agg #[.int .i64 sx, .int .i64 m1, .int .i64 m2]] g fun e w' => e = .returned (.tuple #[sealedV A C a1 c1 a2 c2, .int .i64 0]) ∧ Below g.heap.size g w')) (hu : r.tmod 1073741789 = ru) (hv : m0.tmod 1073741789 = mu) (hu1 : -1073741789 < ru) (hu2 : ru < 1073741789) (hv1 : -1073741789 < mu) (hv2 : mu < 1073741789) (hsx : (ru + mu).tmod 1073741789 = sx) :
    Calls Tryd.prog 3 #[.int .i64 line, .int .i64 one, .int .i64 two, .int .i64 alias, .int .i64 r, .agg #[.int .i64 p, .int .i64 q], .agg #[.int .i64 m0, .int .i64 m1, .int .i64 m2]] w fun e w' => e = .returned (.bool true) ∧ Below w.heap.size w w' := by
  have P0 := Lib.hid ((Blk.new w #[.int .i64 p, .int .i64 q] 22).alloc (.cells #[.int .i64 m0, .int .i64 m1, .int .i64 m2] 23))
  have M0 := Lib.hid (show Blk ((w.alloc (.cells #[.int .i64 p, .int .i64 q] 22)).alloc (.cells #[.int .i64 m0, .int .i64 m1, .int .i64 m2] 23)) (w.heap.size + 1) #[.int .i64 m0, .int .i64 m1, .int .i64 m2] 23 by have := Blk.new (w.alloc (.cells #[.int .i64 p, .int .i64 q] 22)) #[.int .i64 m0, .int .i64 m1, .int .i64 m2] 23; simpa using this)
  have B0 := Lib.hid (show Below w.heap.size w ((w.alloc (.cells #[.int .i64 p, .int .i64 q] 22)).alloc (.cells #[.int .i64 m0, .int .i64 m1, .int .i64 m2] 23)) from (bel_alloc1 w _).alloc (by simp) _)
  go_enter Tryd.func3, Tryd.ntmps3
  go_wp2_with (first
    | (go_at_call 5; with_reducible refine (sane16_any _ (Lib.hid (hk.out.below B0.out))).mono ?_; rintro e wa ⟨rfl, hb⟩; have B1 := Lib.hid (bel_trans B0.out hb); have P1 := Lib.hid (P0.out.below hb P0.out.lt); have M1 := Lib.hid (M0.out.below hb M0.out.lt); clear hb)
    | (go_at_call 6; with_reducible refine (pub_ok one pa _ hs1 hpa).mono ?_; rintro e wb ⟨rfl, hb⟩; have B2 := Lib.hid (bel_trans B1.out hb); have P2 := Lib.hid (P1.out.below hb P1.out.lt); have M2 := Lib.hid (M1.out.below hb M1.out.lt); clear hb)
    | (go_at_call 6; with_reducible refine (pub_ok two pb _ hs2 hpb).mono ?_; rintro e wc ⟨rfl, hb⟩; have B3 := Lib.hid (bel_trans B2.out hb); have P3 := Lib.hid (P2.out.below hb P2.out.lt); have M3 := Lib.hid (M2.out.below hb M2.out.lt); clear hb)
    | (go_at_call 7; refine (join2 pa pb key wc he1 he2 hkey).mono ?_; rintro e wd ⟨rfl, hb⟩; have B4 := Lib.hid (bel_trans B3.out hb); have P4 := Lib.hid (P3.out.below hb P3.out.lt); have M4 := Lib.hid (M3.out.below hb M3.out.lt); clear hb)
    | (go_at_call 8; with_reducible refine (omake_ok line key alias r _ hl hke hwa xa xb0 ds hcx hds (Lib.hid (hk.out.below B4.out))).mono ?_; rintro e we ⟨rfl, hb⟩; have B5 := Lib.hid (bel_trans B4.out hb); have P5 := Lib.hid (P4.out.below hb P4.out.lt); have M5 := Lib.hid (M4.out.below hb M4.out.lt); clear hb)
    | (refine list_storeR rfl (.tmp 21) (.tmp 69) rfl we.heap.size rfl line key xa xb0 ds rfl hdl.out 0 0 0 0 (List.replicate 32 0) (RBlk.new we) ?_)
  )
  intro we' qe ke
  have Ke := Lib.hid ((bel_alloc1 we _).trans (ke.below (Nat.le_refl _)))
  have Qe := Lib.hid qe
  clear qe ke
  have B6 := Lib.hid (bel_trans B5.out Ke.out)
  have P6 := Lib.hid (P5.out.below Ke.out P5.out.lt)
  have M6 := Lib.hid (M5.out.below Ke.out M5.out.lt)
  generalize we.heap.size = xb at Qe ⊢
  have X6 := Qe
  clear Ke
  have p0 := P6.out.cell 0
  have p1 := P6.out.cell 1
  have m0c := M6.out.cell 0
  have m1c := M6.out.cell 1
  have m2c := M6.out.cell 2
  go_upto_region 14 with (first
    | (refine list_loadR (by rfl) (.tmp 21) rfl xb rfl line key xa xb0 ds X6.out ?_)
    | (go_at_call 9; with_reducible refine (ouse_ok line key xa xb0 ds p q m0 m1 m2 _ hdl (Lib.hid (hk.out.below B6.out)) hrc hp hq hke hww a0 c0 a1 c1 a2 c2 A C hc0 hc1 hc2 hA hC).mono ?_; rintro e wf ⟨rfl, hb⟩; have B7 := Lib.hid (bel_trans B6.out hb); have P7 := Lib.hid (P6.out.below hb P6.out.lt); have M7 := Lib.hid (M6.out.below hb M6.out.lt); have X7 := Lib.hid (X6.out.bel hb); clear hb)
  )
  clear p0 p1 m0c m1c m2c
  have Kwf := Lib.hid (bel_alloc1 wf (.cells #[.int .i64 A, .int .i64 C, .int .i64 a1, .int .i64 c1, .int .i64 a2, .int .i64 c2] 39))
  have Qwf := Lib.hid (Blk.new wf #[.int .i64 A, .int .i64 C, .int .i64 a1, .int .i64 c1, .int .i64 a2, .int .i64 c2] 39)
  generalize World.alloc wf _ = wf' at Kwf Qwf ⊢
  generalize wf.heap.size = sb at Qwf ⊢
  have B8 := Lib.hid (bel_trans B7.out Kwf.out)
  have P8 := Lib.hid (P7.out.below Kwf.out P7.out.lt)
  have M8 := Lib.hid (M7.out.below Kwf.out M7.out.lt)
  have X8 := Lib.hid (X7.out.bel Kwf.out)
  have S8 := Qwf
  clear Kwf
  go_upto_region 18 with (first
    | (refine list_loadR (by rfl) (.tmp 21) rfl xb rfl line key xa xb0 ds X8.out ?_)
    | (go_at_call 10; with_reducible refine (ocheck_any line key xa xb0 ds 0 _ hdl hrc (Lib.hid (hk.out.below B8.out))).mono ?_; rintro e wg ⟨rfl, hb⟩; have B9 := Lib.hid (bel_trans B8.out hb); have P9 := Lib.hid (P8.out.below hb P8.out.lt); have M9 := Lib.hid (M8.out.below hb M8.out.lt); have X9 := Lib.hid (X8.out.bel hb); have S9 := Lib.hid (S8.out.below hb S8.out.lt); have s0 := S9.out.cell 0; have s1 := S9.out.cell 1; have s2 := S9.out.cell 2; have s3 := S9.out.cell 3; have s4 := S9.out.cell 4; have s5 := S9.out.cell 5; clear hb)
    | (go_at_call 11; with_reducible refine (rchk_is A C a1 c1 a2 c2 _ hck).mono ?_; rintro e wh ⟨rfl, hb⟩; have B10 := Lib.hid (bel_trans B9.out hb); have P10 := Lib.hid (P9.out.below hb P9.out.lt); have M10 := Lib.hid (M9.out.below hb M9.out.lt); have X10 := Lib.hid (X9.out.bel hb); have S10 := Lib.hid (S9.out.below hb S9.out.lt); clear s0 s1 s2 s3 s4 s5; clear hb)
  )
  go_wp2_with fail
  have Kor := Lib.hid (bel_alloc1 wh (.cells #[.int .i64 one, .int .i64 two, .int .i64 two, .int .i64 one] 22))
  have Qor := Lib.hid (Blk.new wh #[.int .i64 one, .int .i64 two, .int .i64 two, .int .i64 one] 22)
  generalize World.alloc wh _ = wor at Kor Qor ⊢
  generalize wh.heap.size = ob at Qor ⊢
  have B11 := Lib.hid (bel_trans B10.out Kor.out)
  have P11 := Lib.hid (P10.out.below Kor.out P10.out.lt)
  have M11 := Lib.hid (M10.out.below Kor.out M10.out.lt)
  have X11 := Lib.hid (X10.out.bel Kor.out)
  have S11 := Lib.hid (S10.out.below Kor.out S10.out.lt)
  have O11 := Qor
  clear Kor
  go_loopw [148] (fun i wr => ∃ k : Nat, k ≤ 2 ∧ i = .int .i64 k ∧ Hid (Below w.heap.size w wr) ∧ Hid (Blk wr w.heap.size #[.int .i64 p, .int .i64 q] 22) ∧ Hid (Blk wr (w.heap.size + 1) #[.int .i64 m0, .int .i64 m1, .int .i64 m2] 23) ∧ Hid (Blk wr sb #[.int .i64 A, .int .i64 C, .int .i64 a1, .int .i64 c1, .int .i64 a2, .int .i64 c2] 39) ∧ Hid (Blk wr ob #[.int .i64 one, .int .i64 two, .int .i64 two, .int .i64 one] 22)) (fun i _ => 2 - (intOf i).toNat)
  case atStart => exact ⟨0, by omega, rfl, B11, P11, M11, S11, O11⟩
  case round =>
    clear B11 P11 M11 S11 O11
    obtain ⟨k, hk2, rfl, B40, P40, M40, S40, O40⟩ := hrel
    obtain rfl | rfl | rfl : k = 0 ∨ k = 1 ∨ k = 2 := by omega
    · skip
      have o0 := O40.out.cell 0
      have o1 := O40.out.cell 1
      have o2 := O40.out.cell 2
      have o3 := O40.out.cell 3
      go_upto_region 21 with fail
      clear o0 o1 o2 o3
      have Kwr := Lib.hid (bel_alloc1 wr (.cells #[.int .i64 one, .int .i64 two] 22))
      have Qwr := Lib.hid (Blk.new wr #[.int .i64 one, .int .i64 two] 22)
      generalize World.alloc wr _ = wr' at Kwr Qwr ⊢
      generalize wr.heap.size = db at Qwr ⊢
      have B41 := Lib.hid (bel_trans B40.out Kwr.out)
      have P41 := Lib.hid (P40.out.below Kwr.out P40.out.lt)
      have M41 := Lib.hid (M40.out.below Kwr.out M40.out.lt)
      have S41 := Lib.hid (S40.out.below Kwr.out S40.out.lt)
      have O41 := Lib.hid (O40.out.below Kwr.out O40.out.lt)
      have D41 := Qwr
      clear Kwr
      have dc0 := D41.out.cell 0
      have dc1 := D41.out.cell 1
      have s0 := S41.out.cell 0
      have s1 := S41.out.cell 1
      have s2 := S41.out.cell 2
      have s3 := S41.out.cell 3
      have s4 := S41.out.cell 4
      have s5 := S41.out.cell 5
      go_upto_region 22 with (first
        | (go_at_call 12; with_reducible refine (HS1.out _).mono ?_; rintro e wk ⟨rfl, hb⟩; have B42 := Lib.hid (bel_trans B41.out hb); have P42 := Lib.hid (P41.out.below hb P41.out.lt); have M42 := Lib.hid (M41.out.below hb M41.out.lt); have S42 := Lib.hid (S41.out.below hb S41.out.lt); have O42 := Lib.hid (O41.out.below hb O41.out.lt); have D42 := Lib.hid (D41.out.below hb D41.out.lt); clear hb)
      )
      clear dc0 dc1 s0 s1 s2 s3 s4 s5
      have Kwk := Lib.hid (bel_alloc1 wk (.cells #[.int .i64 A, .int .i64 d0, .int .i64 a1, .int .i64 d1, .int .i64 a2, .int .i64 d2] 39))
      have Qwk := Lib.hid (Blk.new wk #[.int .i64 A, .int .i64 d0, .int .i64 a1, .int .i64 d1, .int .i64 a2, .int .i64 d2] 39)
      generalize World.alloc wk _ = wk' at Kwk Qwk ⊢
      generalize wk.heap.size = eb at Qwk ⊢
      have B43 := Lib.hid (bel_trans B42.out Kwk.out)
      have P43 := Lib.hid (P42.out.below Kwk.out P42.out.lt)
      have M43 := Lib.hid (M42.out.below Kwk.out M42.out.lt)
      have S43 := Lib.hid (S42.out.below Kwk.out S42.out.lt)
      have O43 := Lib.hid (O42.out.below Kwk.out O42.out.lt)
      have D43 := Lib.hid (D42.out.below Kwk.out D42.out.lt)
      have E43 := Qwk
      clear Kwk
      have dc0 := D43.out.cell 0
      have dc1 := D43.out.cell 1
      have s0 := E43.out.cell 0
      have s1 := E43.out.cell 1
      have s2 := E43.out.cell 2
      have s3 := E43.out.cell 3
      have s4 := E43.out.cell 4
      have s5 := E43.out.cell 5
      go_upto_region 23 with (first
        | (go_at_call 12; with_reducible refine (HS2.out _).mono ?_; rintro e wl ⟨rfl, hb⟩; have B44 := Lib.hid (bel_trans B43.out hb); have P44 := Lib.hid (P43.out.below hb P43.out.lt); have M44 := Lib.hid (M43.out.below hb M43.out.lt); have S44 := Lib.hid (S43.out.below hb S43.out.lt); have O44 := Lib.hid (O43.out.below hb O43.out.lt); have D44 := Lib.hid (D43.out.below hb D43.out.lt); have E44 := Lib.hid (E43.out.below hb E43.out.lt); clear hb)
      )
      clear dc0 dc1 s0 s1 s2 s3 s4 s5
      have Kwl := Lib.hid (bel_alloc1 wl (.cells #[.int .i64 A, .int .i64 e0, .int .i64 a1, .int .i64 e1, .int .i64 a2, .int .i64 e2] 39))
      have Qwl := Lib.hid (Blk.new wl #[.int .i64 A, .int .i64 e0, .int .i64 a1, .int .i64 e1, .int .i64 a2, .int .i64 e2] 39)
      generalize World.alloc wl _ = wl' at Kwl Qwl ⊢
      generalize wl.heap.size = fb at Qwl ⊢
      have B45 := Lib.hid (bel_trans B44.out Kwl.out)
      have P45 := Lib.hid (P44.out.below Kwl.out P44.out.lt)
      have M45 := Lib.hid (M44.out.below Kwl.out M44.out.lt)
      have S45 := Lib.hid (S44.out.below Kwl.out S44.out.lt)
      have O45 := Lib.hid (O44.out.below Kwl.out O44.out.lt)
      have D45 := Lib.hid (D44.out.below Kwl.out D44.out.lt)
      have E45 := Lib.hid (E44.out.below Kwl.out E44.out.lt)
      have F45 := Qwl
      clear Kwl
      have s0 := F45.out.cell 0
      have s1 := F45.out.cell 1
      have s2 := F45.out.cell 2
      have s3 := F45.out.cell 3
      have s4 := F45.out.cell 4
      have s5 := F45.out.cell 5
      go_upto_region 24 with (first
        | (go_at_call 13; with_reducible refine (HRD.out _).mono ?_; rintro e wm ⟨rfl, hb⟩; have B46 := Lib.hid (bel_trans B45.out hb); have P46 := Lib.hid (P45.out.below hb P45.out.lt); have M46 := Lib.hid (M45.out.below hb M45.out.lt); have S46 := Lib.hid (S45.out.below hb S45.out.lt); have O46 := Lib.hid (O45.out.below hb O45.out.lt); have D46 := Lib.hid (D45.out.below hb D45.out.lt); have E46 := Lib.hid (E45.out.below hb E45.out.lt); have F46 := Lib.hid (F45.out.below hb F45.out.lt); clear hb)
      )
      clear s0 s1 s2 s3 s4 s5
      have Kwm := Lib.hid (bel_alloc1 wm (.cells #[.int .i64 alias, .int .i64 p, .int .i64 q] 46))
      have Qwm := Lib.hid (Blk.new wm #[.int .i64 alias, .int .i64 p, .int .i64 q] 46)
      generalize World.alloc wm _ = wm' at Kwm Qwm ⊢
      generalize wm.heap.size = gb at Qwm ⊢
      have B47 := Lib.hid (bel_trans B46.out Kwm.out)
      have P47 := Lib.hid (P46.out.below Kwm.out P46.out.lt)
      have M47 := Lib.hid (M46.out.below Kwm.out M46.out.lt)
      have S47 := Lib.hid (S46.out.below Kwm.out S46.out.lt)
      have O47 := Lib.hid (O46.out.below Kwm.out O46.out.lt)
      have D47 := Lib.hid (D46.out.below Kwm.out D46.out.lt)
      have E47 := Lib.hid (E46.out.below Kwm.out E46.out.lt)
      have F47 := Lib.hid (F46.out.below Kwm.out F46.out.lt)
      have G47 := Qwm
      clear Kwm
      have gc0 := G47.out.cell 0
      have gc1 := G47.out.cell 1
      have gc2 := G47.out.cell 2
      have pc0 := P47.out.cell 0
      have pc1 := P47.out.cell 1
      go_wp2_with fail
      go_roundw
      case rel => exact ⟨1, by omega, by simp, B47, P47, M47, S47, O47⟩
      case measure => simp [intOf]
    · skip
      have o0 := O40.out.cell 0
      have o1 := O40.out.cell 1
      have o2 := O40.out.cell 2
      have o3 := O40.out.cell 3
      go_upto_region 21 with fail
      clear o0 o1 o2 o3
      have Kwr := Lib.hid (bel_alloc1 wr (.cells #[.int .i64 two, .int .i64 one] 22))
      have Qwr := Lib.hid (Blk.new wr #[.int .i64 two, .int .i64 one] 22)
      generalize World.alloc wr _ = wr' at Kwr Qwr ⊢
      generalize wr.heap.size = db at Qwr ⊢
      have B41 := Lib.hid (bel_trans B40.out Kwr.out)
      have P41 := Lib.hid (P40.out.below Kwr.out P40.out.lt)
      have M41 := Lib.hid (M40.out.below Kwr.out M40.out.lt)
      have S41 := Lib.hid (S40.out.below Kwr.out S40.out.lt)
      have O41 := Lib.hid (O40.out.below Kwr.out O40.out.lt)
      have D41 := Qwr
      clear Kwr
      have dc0 := D41.out.cell 0
      have dc1 := D41.out.cell 1
      have s0 := S41.out.cell 0
      have s1 := S41.out.cell 1
      have s2 := S41.out.cell 2
      have s3 := S41.out.cell 3
      have s4 := S41.out.cell 4
      have s5 := S41.out.cell 5
      go_upto_region 22 with (first
        | (go_at_call 12; with_reducible refine (HS3.out _).mono ?_; rintro e wk ⟨rfl, hb⟩; have B42 := Lib.hid (bel_trans B41.out hb); have P42 := Lib.hid (P41.out.below hb P41.out.lt); have M42 := Lib.hid (M41.out.below hb M41.out.lt); have S42 := Lib.hid (S41.out.below hb S41.out.lt); have O42 := Lib.hid (O41.out.below hb O41.out.lt); have D42 := Lib.hid (D41.out.below hb D41.out.lt); clear hb)
      )
      clear dc0 dc1 s0 s1 s2 s3 s4 s5
      have Kwk := Lib.hid (bel_alloc1 wk (.cells #[.int .i64 A, .int .i64 g0, .int .i64 a1, .int .i64 g1, .int .i64 a2, .int .i64 g2] 39))
      have Qwk := Lib.hid (Blk.new wk #[.int .i64 A, .int .i64 g0, .int .i64 a1, .int .i64 g1, .int .i64 a2, .int .i64 g2] 39)
      generalize World.alloc wk _ = wk' at Kwk Qwk ⊢
      generalize wk.heap.size = eb at Qwk ⊢
      have B43 := Lib.hid (bel_trans B42.out Kwk.out)
      have P43 := Lib.hid (P42.out.below Kwk.out P42.out.lt)
      have M43 := Lib.hid (M42.out.below Kwk.out M42.out.lt)
      have S43 := Lib.hid (S42.out.below Kwk.out S42.out.lt)
      have O43 := Lib.hid (O42.out.below Kwk.out O42.out.lt)
      have D43 := Lib.hid (D42.out.below Kwk.out D42.out.lt)
      have E43 := Qwk
      clear Kwk
      have dc0 := D43.out.cell 0
      have dc1 := D43.out.cell 1
      have s0 := E43.out.cell 0
      have s1 := E43.out.cell 1
      have s2 := E43.out.cell 2
      have s3 := E43.out.cell 3
      have s4 := E43.out.cell 4
      have s5 := E43.out.cell 5
      go_upto_region 23 with (first
        | (go_at_call 12; with_reducible refine (HS4.out _).mono ?_; rintro e wl ⟨rfl, hb⟩; have B44 := Lib.hid (bel_trans B43.out hb); have P44 := Lib.hid (P43.out.below hb P43.out.lt); have M44 := Lib.hid (M43.out.below hb M43.out.lt); have S44 := Lib.hid (S43.out.below hb S43.out.lt); have O44 := Lib.hid (O43.out.below hb O43.out.lt); have D44 := Lib.hid (D43.out.below hb D43.out.lt); have E44 := Lib.hid (E43.out.below hb E43.out.lt); clear hb)
      )
      clear dc0 dc1 s0 s1 s2 s3 s4 s5
      have Kwl := Lib.hid (bel_alloc1 wl (.cells #[.int .i64 A, .int .i64 e0, .int .i64 a1, .int .i64 e1, .int .i64 a2, .int .i64 e2] 39))
      have Qwl := Lib.hid (Blk.new wl #[.int .i64 A, .int .i64 e0, .int .i64 a1, .int .i64 e1, .int .i64 a2, .int .i64 e2] 39)
      generalize World.alloc wl _ = wl' at Kwl Qwl ⊢
      generalize wl.heap.size = fb at Qwl ⊢
      have B45 := Lib.hid (bel_trans B44.out Kwl.out)
      have P45 := Lib.hid (P44.out.below Kwl.out P44.out.lt)
      have M45 := Lib.hid (M44.out.below Kwl.out M44.out.lt)
      have S45 := Lib.hid (S44.out.below Kwl.out S44.out.lt)
      have O45 := Lib.hid (O44.out.below Kwl.out O44.out.lt)
      have D45 := Lib.hid (D44.out.below Kwl.out D44.out.lt)
      have E45 := Lib.hid (E44.out.below Kwl.out E44.out.lt)
      have F45 := Qwl
      clear Kwl
      have s0 := F45.out.cell 0
      have s1 := F45.out.cell 1
      have s2 := F45.out.cell 2
      have s3 := F45.out.cell 3
      have s4 := F45.out.cell 4
      have s5 := F45.out.cell 5
      go_upto_region 24 with (first
        | (go_at_call 13; with_reducible refine (HRD.out _).mono ?_; rintro e wm ⟨rfl, hb⟩; have B46 := Lib.hid (bel_trans B45.out hb); have P46 := Lib.hid (P45.out.below hb P45.out.lt); have M46 := Lib.hid (M45.out.below hb M45.out.lt); have S46 := Lib.hid (S45.out.below hb S45.out.lt); have O46 := Lib.hid (O45.out.below hb O45.out.lt); have D46 := Lib.hid (D45.out.below hb D45.out.lt); have E46 := Lib.hid (E45.out.below hb E45.out.lt); have F46 := Lib.hid (F45.out.below hb F45.out.lt); clear hb)
      )
      clear s0 s1 s2 s3 s4 s5
      have Kwm := Lib.hid (bel_alloc1 wm (.cells #[.int .i64 alias, .int .i64 p, .int .i64 q] 46))
      have Qwm := Lib.hid (Blk.new wm #[.int .i64 alias, .int .i64 p, .int .i64 q] 46)
      generalize World.alloc wm _ = wm' at Kwm Qwm ⊢
      generalize wm.heap.size = gb at Qwm ⊢
      have B47 := Lib.hid (bel_trans B46.out Kwm.out)
      have P47 := Lib.hid (P46.out.below Kwm.out P46.out.lt)
      have M47 := Lib.hid (M46.out.below Kwm.out M46.out.lt)
      have S47 := Lib.hid (S46.out.below Kwm.out S46.out.lt)
      have O47 := Lib.hid (O46.out.below Kwm.out O46.out.lt)
      have D47 := Lib.hid (D46.out.below Kwm.out D46.out.lt)
      have E47 := Lib.hid (E46.out.below Kwm.out E46.out.lt)
      have F47 := Lib.hid (F46.out.below Kwm.out F46.out.lt)
      have G47 := Qwm
      clear Kwm
      have gc0 := G47.out.cell 0
      have gc1 := G47.out.cell 1
      have gc2 := G47.out.cell 2
      have pc0 := P47.out.cell 0
      have pc1 := P47.out.cell 1
      go_wp2_with fail
      go_roundw
      case rel => exact ⟨2, by omega, by simp, B47, P47, M47, S47, O47⟩
      case measure => simp [intOf]
    · skip
      have mc0 := M40.out.cell 0
      have mc1 := M40.out.cell 1
      have mc2 := M40.out.cell 2
      go_upto_region 28 with fail
      clear mc0 mc1 mc2
      have Kwr := Lib.hid (bel_alloc1 wr (.cells #[.int .i64 sx, .int .i64 m1, .int .i64 m2] 23))
      have Qwr := Lib.hid (Blk.new wr #[.int .i64 sx, .int .i64 m1, .int .i64 m2] 23)
      generalize World.alloc wr _ = wr' at Kwr Qwr ⊢
      generalize wr.heap.size = db at Qwr ⊢
      have B41 := Lib.hid (bel_trans B40.out Kwr.out)
      have P41 := Lib.hid (P40.out.below Kwr.out P40.out.lt)
      have M41 := Lib.hid (M40.out.below Kwr.out M40.out.lt)
      have S41 := Lib.hid (S40.out.below Kwr.out S40.out.lt)
      have O41 := Lib.hid (O40.out.below Kwr.out O40.out.lt)
      have D41 := Qwr
      clear Kwr
      have dc0 := D41.out.cell 0
      have dc1 := D41.out.cell 1
      have dc2 := D41.out.cell 2
      have pc0 := P41.out.cell 0
      have pc1 := P41.out.cell 1
      go_upto_region 29 with (first
        | (go_at_call 14; with_reducible refine (HSL.out _).mono ?_; rintro e wk ⟨rfl, hb⟩; have B42 := Lib.hid (bel_trans B41.out hb); have P42 := Lib.hid (P41.out.below hb P41.out.lt); have M42 := Lib.hid (M41.out.below hb M41.out.lt); have S42 := Lib.hid (S41.out.below hb S41.out.lt); have O42 := Lib.hid (O41.out.below hb O41.out.lt); have D42 := Lib.hid (D41.out.below hb D41.out.lt); clear hb)
      )
      clear dc0 dc1 dc2 pc0 pc1
      have Kwk := Lib.hid (bel_alloc1 wk (.cells #[.int .i64 A, .int .i64 C, .int .i64 a1, .int .i64 c1, .int .i64 a2, .int .i64 c2] 39))
      have Qwk := Lib.hid (Blk.new wk #[.int .i64 A, .int .i64 C, .int .i64 a1, .int .i64 c1, .int .i64 a2, .int .i64 c2] 39)
      generalize World.alloc wk _ = wk' at Kwk Qwk ⊢
      generalize wk.heap.size = eb at Qwk ⊢
      have B43 := Lib.hid (bel_trans B42.out Kwk.out)
      have P43 := Lib.hid (P42.out.below Kwk.out P42.out.lt)
      have M43 := Lib.hid (M42.out.below Kwk.out M42.out.lt)
      have S43 := Lib.hid (S42.out.below Kwk.out S42.out.lt)
      have O43 := Lib.hid (O42.out.below Kwk.out O42.out.lt)
      have D43 := Lib.hid (D42.out.below Kwk.out D42.out.lt)
      have E43 := Qwk
      clear Kwk
      have s0 := S43.out.cell 0
      have t0 := E43.out.cell 0
      have s1 := S43.out.cell 1
      have t1 := E43.out.cell 1
      have s2 := S43.out.cell 2
      have t2 := E43.out.cell 2
      have s3 := S43.out.cell 3
      have t3 := E43.out.cell 3
      have s4 := S43.out.cell 4
      have t4 := E43.out.cell 4
      have s5 := S43.out.cell 5
      have t5 := E43.out.cell 5
      go_wp2_with fail
      go_ret
      exact ⟨rfl, B43.out⟩
theorem reads_walk (line one two alias r p q m0 m1 m2 : Int) (w : World) (hk : Hid (KeysAt w)) :
    Calls Tryd.prog 3 #[.int .i64 line, .int .i64 one, .int .i64 two, .int .i64 alias, .int .i64 r, .agg #[.int .i64 p, .int .i64 q], .agg #[.int .i64 m0, .int .i64 m1, .int .i64 m2]] w fun e w' => e = .returned (.bool true) ∧ Below w.heap.size w w' := by
  cases h1 : secB one with
  | false => exact reads_sec1 line one two alias r p q m0 m1 m2 w hk (Lib.hid h1) _ _ (Lib.hid fun g => public_any two g)
  | true =>
  have hs1 := Lib.hid h1
  obtain ⟨pa, hpa0⟩ : ∃ x, powZ 4 one = x := ⟨_, rfl⟩
  have hpa := Lib.hid hpa0
  cases h2 : secB two with
  | false => exact reads_sec2 line one two alias r p q m0 m1 m2 w hk pa hs1 hpa (Lib.hid h2)
  | true =>
  have hs2 := Lib.hid h2
  obtain ⟨pb, hpb0⟩ : ∃ x, powZ 4 two = x := ⟨_, rfl⟩
  have hpb := Lib.hid hpb0
  have he1 := Lib.hid (show elB pa = true by rw [← hpa0]; exact powZ_el elB_4 _)
  have he2 := Lib.hid (show elB pb = true by rw [← hpb0]; exact powZ_el elB_4 _)
  obtain ⟨key, hkey0⟩ : ∃ x, mulZ pa pb = x := ⟨_, rfl⟩
  have hkey := Lib.hid hkey0
  have hke0 : elB key = true := by rw [← hkey0]; exact mulZ_el he1.out he2.out
  have hke := Lib.hid hke0
  have hk12 : key = powZ 4 (one + two) := by rw [← hkey0, ← hpa0, ← hpb0, powZ_add elB_4]
  have hk21 : key = powZ 4 (two + one) := by rw [hk12, Int.add_comm]
  rcases Int.lt_or_le line 0 with hl0 | hl0
  · exact reads_mneg line one two alias r p q m0 m1 m2 w hk pa hs1 hpa pb key hs2 hpb he1 he2 hkey hke (Lib.hid hl0)
  rcases Int.lt_or_le line 64 with hl1 | hl1
  case inr => exact reads_mbig line one two alias r p q m0 m1 m2 w hk pa hs1 hpa pb key hs2 hpb he1 he2 hkey hke (Lib.hid hl1)
  rcases Int.lt_or_le alias 1 with ha0 | ha0
  · exact reads_mlow line one two alias r p q m0 m1 m2 w hk pa hs1 hpa pb key hs2 hpb he1 he2 hkey hke (Lib.hid ⟨hl0, hl1⟩) (Lib.hid ha0)
  rcases Int.lt_or_le 1073741789 alias with ha1 | ha1
  · exact reads_mhigh line one two alias r p q m0 m1 m2 w hk pa hs1 hpa pb key hs2 hpb he1 he2 hkey hke (Lib.hid ⟨hl0, hl1⟩) (Lib.hid ha1)
  have hl := Lib.hid (lineB_iff.2 ⟨hl0, hl1⟩)
  have hwa := Lib.hid (wordB_iff.2 ⟨ha0, ha1⟩)
  obtain ⟨xa, xb0, hcx0⟩ := isCip key (elmZ alias) r
  obtain ⟨ds, hds0⟩ := isTag line key xa xb0
  have hcx := Lib.hid hcx0
  have hds := Lib.hid hds0
  have hdl := Lib.hid hds0.len
  obtain ⟨hxa, hxb⟩ := hcx0.el hke0 (elm_el hwa.out)
  have hrc := Lib.hid (show IsRC line key xa xb0 ds 0 from .inr ⟨partB_iff.2 ⟨hl.out, hke0, hxa, hxb⟩, ds, hds0, .inl ⟨rfl, rfl⟩⟩)
  rcases Int.lt_or_le p 1 with hp0 | hp0
  · exact reads_uplow line one two alias r p q m0 m1 m2 w hk pa hs1 hpa pb key hs2 hpb he1 he2 hkey hke hl hwa xa xb0 ds hcx hds hdl hrc (Lib.hid hp0)
  rcases Int.lt_or_le 1073741789 p with hp1 | hp1
  · exact reads_uphigh line one two alias r p q m0 m1 m2 w hk pa hs1 hpa pb key hs2 hpb he1 he2 hkey hke hl hwa xa xb0 ds hcx hds hdl hrc (Lib.hid hp1)
  have hp := Lib.hid (wordB_iff.2 ⟨hp0, hp1⟩)
  rcases Int.lt_or_le q 1 with hq0 | hq0
  · exact reads_uqlow line one two alias r p q m0 m1 m2 w hk pa hs1 hpa pb key hs2 hpb he1 he2 hkey hke hl hwa xa xb0 ds hcx hds hdl hrc hp (Lib.hid hq0)
  rcases Int.lt_or_le 1073741789 q with hq1 | hq1
  · exact reads_uqhigh line one two alias r p q m0 m1 m2 w hk pa hs1 hpa pb key hs2 hpb he1 he2 hkey hke hl hwa xa xb0 ds hcx hds hdl hrc hp (Lib.hid hq1)
  have hq := Lib.hid (wordB_iff.2 ⟨hq0, hq1⟩)
  obtain ⟨a0, c0, hc0⟩ := isCip key (elmZ 1) m0
  obtain ⟨a1, c1, hc1⟩ := isCip key (elmZ p) m1
  obtain ⟨a2, c2, hc2⟩ := isCip key (elmZ q) m2
  obtain ⟨A, hA⟩ : ∃ x, mulZ xa a0 = x := ⟨_, rfl⟩
  obtain ⟨C, hC⟩ : ∃ x, mulZ xb0 c0 = x := ⟨_, rfl⟩
  have hca : IsCip key (elmZ alias) (r + m0) A C := by rw [← hA, ← hC]; exact sealed_cip hke0 (elm_el hwa.out) hcx0 hc0
  obtain ⟨hA1, hC1⟩ := hca.el hke0 (elm_el hwa.out)
  obtain ⟨ha1e, hc1e⟩ := hc1.el hke0 (elm_el hp.out)
  obtain ⟨ha2e, hc2e⟩ := hc2.el hke0 (elm_el hq.out)
  have chk : ∀ {x y z : Int}, elB x = true → elB y = true → elB z = true → chkE A x a1 y a2 z = 0 := fun hx hy hz => chk_of hA1 hx ha1e hy ha2e hz
  obtain ⟨d0, u0, v0, w0⟩ := strip_cip hk12 (elm_el hwa.out) hca
  obtain ⟨d1, u1, v1, w1⟩ := strip_cip hk12 (elm_el hp.out) hc1
  obtain ⟨d2, u2, v2, w2⟩ := strip_cip hk12 (elm_el hq.out) hc2
  obtain ⟨g0, u3, v3, w3⟩ := strip_cip hk21 (elm_el hwa.out) hca
  obtain ⟨g1, u4, v4, w4⟩ := strip_cip hk21 (elm_el hp.out) hc1
  obtain ⟨g2, u5, v5, w5⟩ := strip_cip hk21 (elm_el hq.out) hc2
  have t1 := Int.tmod_lt_of_pos r (show (0 : Int) < 1073741789 by omega)
  have t0 : -1073741789 < r.tmod 1073741789 := Int.lt_tmod_of_pos r (by omega)
  have t3 := Int.tmod_lt_of_pos m0 (show (0 : Int) < 1073741789 by omega)
  have t2 : -1073741789 < m0.tmod 1073741789 := Int.lt_tmod_of_pos m0 (by omega)
  have hsum : (r.tmod 1073741789 + m0.tmod 1073741789).tmod 1073741789 % 1073741789 = (r + m0) % 1073741789 := by
    have e1 := exp_eq r
    have e2 := exp_eq m0
    have e3 := exp_eq (r.tmod 1073741789 + m0.tmod 1073741789)
    omega
  exact reads_main line one two alias r p q m0 m1 m2 w hk pa hs1 hpa pb key hs2 hpb he1 he2 hkey hke hl hwa xa xb0 ds hcx hds hdl hrc hp hq (Lib.hid ⟨by decide, hp.out, hq.out⟩) a0 c0 a1 c1 a2 c2 A C (Lib.hid hc0) (Lib.hid hc1) (Lib.hid hc2) (Lib.hid hA) (Lib.hid hC) (Lib.hid (chk hC1 hc1e hc2e))
    d0 d1 d2 g0 g1 g2 (elmZ alias) (elmZ p) (elmZ q) _ _ _
    (Lib.hid fun g => strip_is one A C a1 c1 a2 c2 d0 d1 d2 g hs1 (Lib.hid (chk hC1 hc1e hc2e)) (Lib.hid u0) (Lib.hid u1) (Lib.hid u2))
    (Lib.hid fun g => strip_is two A d0 a1 d1 a2 d2 _ _ _ g hs2 (Lib.hid (chk v0 v1 v2)) (Lib.hid w0) (Lib.hid w1) (Lib.hid w2))
    (Lib.hid fun g => strip_is two A C a1 c1 a2 c2 g0 g1 g2 g hs2 (Lib.hid (chk hC1 hc1e hc2e)) (Lib.hid u3) (Lib.hid u4) (Lib.hid u5))
    (Lib.hid fun g => strip_is one A g0 a1 g1 a2 g2 _ _ _ g hs1 (Lib.hid (chk v3 v4 v5)) (Lib.hid w3) (Lib.hid w4) (Lib.hid w5))
    (Lib.hid fun g => read_is A _ a1 _ a2 _ alias p q g (Lib.hid (chk (elm_el hwa.out) (elm_el hp.out) (elm_el hq.out))) (Lib.hid (num_elm ⟨ha0, ha1⟩).1) (Lib.hid (num_elm ⟨hp0, hp1⟩).1) (Lib.hid (num_elm ⟨hq0, hq1⟩).1))
    (Lib.hid fun g => seal_is key alias p q _ m1 m2 A C a1 c1 a2 c2 g hke (Lib.hid ⟨hwa.out, hp.out, hq.out⟩) (Lib.hid (cip_congr hca hsum)) (Lib.hid hc1) (Lib.hid hc2))
    rfl rfl t0 t1 t2 t3 rfl

namespace onetimeReads
theorem readable : ∀ t ∈ Tryd.f3.params.toList, Tryd.prog.readableRec t = true ∧ t < Tryd.prog.types.size := by
  rw [Tryd.params3]
  intro t ht
  simp only [List.mem_cons, List.not_mem_nil, or_false] at ht
  rcases ht with rfl | rfl | rfl | rfl | rfl | rfl | rfl
  all_goals exact ⟨by kernel_rfl, by decide +kernel⟩

set_option maxRecDepth 100000 in
theorem lifted (os : Os) (started : os.Started) (H : Type) (enc : TypeId × Value → H) :
    ReturnsInHanded {} Tryd.checked os 3 .any (fun w args => (Rows.onetimeReadsSpec.pre enc Tryd.prog Tryd.f3 [] false w args ∧ laidMetH Tryd.prog laidK w) ∧ sizedMet enc Tryd.prog Tryd.f3 (OpenSpec.ofChange Rows.onetimeReadsSpec) false w args)
      (Rows.onetimeReadsSpec.post enc Tryd.prog Tryd.f3 false true false false) := by
  refine returnsInHanded_of_change_and (C := Tryd.checked) (X := fun w _ => laidMetH Tryd.prog laidK w) (fun _ _ _ hh h => h.of_heap hh) own_knob started (by kernel_rfl) Tryd.func3
    (ChangeSpec.witness_shaped (enc := enc) (C := Tryd.checked) (os := os) (X := fun w _ => laidMetH Tryd.prog laidK w) false (World.doorLaid Tryd.prog 400 os) #[.int .i64 0, .int .i64 0, .int .i64 0, .int .i64 0, .int .i64 0, .agg #[.int .i64 0, .int .i64 0], .agg #[.int .i64 0, .int .i64 0, .int .i64 0]] 8 rfl (World.shaped_of_RefB (by kernel_rfl) (by kernel_rfl)) (by kernel_rfl) (by kernel_rfl) (by kernel_rfl) (door_met os _)) ?_
  intro W base args ds gs before hval0 hW _ _ hL _
  have hval : ∀ (j : Nat) t v, Tryd.f3.params[j]? = some t → args[j]? = some v → Value.okWide Tryd.prog W .any base t v := hval0
  have hW' := hW
  obtain ⟨p, q, hA0, hV, rfl, hfz, hnd⟩ := hW
  have hA : DataW.TrodAll enc Tryd.prog W 0 (fun _ => true) true Tryd.f3.params.toList args.toList ds p := hA0
  rw [Tryd.params3] at hA hval
  obtain ⟨v0, vs0, d0, ds0, p0, q0, hargs, rfl, rfl, h0, r0⟩ := trodAll_cons hA
  obtain ⟨v1, vs1, d1, ds1, p1, q1, rfl, rfl, rfl, h1, r1⟩ := trodAll_cons r0
  obtain ⟨v2, vs2, d2, ds2, p2, q2, rfl, rfl, rfl, h2, r2⟩ := trodAll_cons r1
  obtain ⟨v3, vs3, d3, ds3, p3, q3, rfl, rfl, rfl, h3, r3⟩ := trodAll_cons r2
  obtain ⟨v4, vs4, d4, ds4, p4, q4, rfl, rfl, rfl, h4, r4⟩ := trodAll_cons r3
  obtain ⟨v5, vs5, d5, ds5, p5, q5, rfl, rfl, rfl, h5, r5⟩ := trodAll_cons r4
  obtain ⟨v6, vs6, d6, ds6, p6, q6, rfl, rfl, rfl, h6, r6⟩ := trodAll_cons r5
  obtain ⟨rfl, rfl, rfl⟩ := trodAll_nil r6
  obtain rfl : args = #[v0, v1, v2, v3, v4, v5, v6] := by cases args; simp_all
  obtain ⟨rfl, rfl⟩ := trodVars_none hV
  obtain ⟨a0, rfl, rfl, rfl, w0⟩ := open_int Tryd.underlying3 (hval 0 3 v0 rfl rfl) h0
  obtain ⟨a1, rfl, rfl, rfl, w1⟩ := open_int Tryd.underlying3 (hval 1 3 v1 rfl rfl) h1
  obtain ⟨a2, rfl, rfl, rfl, w2⟩ := open_int Tryd.underlying3 (hval 2 3 v2 rfl rfl) h2
  obtain ⟨a3, rfl, rfl, rfl, w3⟩ := open_int Tryd.underlying3 (hval 3 3 v3 rfl rfl) h3
  obtain ⟨a4, rfl, rfl, rfl, w4⟩ := open_int Tryd.underlying3 (hval 4 3 v4 rfl rfl) h4
  obtain ⟨a5, b5, rfl, w5, x5⟩ := open_arr2 Tryd.underlying22 Tryd.underlying3 (by kernel_rfl) (by kernel_rfl) (hval 5 22 v5 rfl rfl) h5
  obtain ⟨a6, b6, c6, rfl, w6, x6, y6⟩ := open_arr3 Tryd.underlying23 Tryd.underlying3 (by kernel_rfl) (by kernel_rfl) (hval 6 23 v6 rfl rfl) h6
  have hK := of_laid hL
  clear hA0 hval0
  refine (reads_walk a0 a1 a2 a3 a4 a5 b5 a6 b6 c6 W (Lib.hid hK)).mono fun e W' ⟨he, hb⟩ => ?_
  subst he
  exact ⟨_, rfl, law_post laid_out readable rfl rfl Tryd.underlying4 hW' rfl rfl rfl hb⟩

theorem over : Rows.onetimeReadsRow.holds Tryd.pinned (OpenSpec.ofChange Rows.onetimeReadsSpec) :=
  OpenClaim.holds_of_wide 3 Tryd.f3 rfl rfl rfl rfl rfl rfl rfl ⟨rfl, rfl, rfl, rfl, rfl⟩ rfl rfl rfl rfl rfl (by kernel_rfl) Tryd.func3 (by kernel_rfl)
    (of_decide_eq_true (by kernel_rfl)) (by unfold Func.isWrapper; first | (rw [if_pos (by decide +kernel)]; kernel_rfl) | (rw [if_neg (by decide +kernel)]; exact ⟨rfl, rfl⟩))
    (fun os started H enc _ => lifted os started H enc)

/-- the statement: the tied card -/
theorem proved : Rows.OnetimeReadsCardSaid :=
  Claim7.holds_tied_plain_at .later [] [.data] true (true, "48b241c494b1766600b3c9a1f13317d893376b1912b4a40efa5fe89d39ab7e7a") false
    over (fun _ h => by cases h) (by kernel_rfl) (fun _ h => by cases h) onetimeReads_row_tie rfl ⟨rfl, rfl⟩ (by kernel_rfl) rfl
    (fun f fn hf hfn => by
      obtain rfl : f = 3 := Option.some.inj ((show Tryd.prog.funcNamed "franking/frankinglaw16.OnetimeReads" = some 3 by kernel_rfl).symm.trans hf) |>.symm
      obtain rfl : fn = Tryd.f3 := (Option.some.inj (Tryd.func3.symm.trans hfn)).symm
      exact ⟨by kernel_rfl, fun j t ht => by
        rw [Tryd.params3] at ht
        have hm : t ∈ [3, 3, 3, 3, 3, 22, 23] := by simpa using Array.mem_of_getElem? ht
        have hall : ([3, 3, 3, 3, 3, 22, 23].all fun u => !Tryd.prog.wantsStandIn u) = true := by kernel_rfl
        exact (show Tryd.prog.wantsStandIn t = false by simpa using List.all_eq_true.1 hall t hm)⟩)
    (by kernel_rfl)
end onetimeReads
end Go.Proofs.YtcedmiojmepioaaDoor
