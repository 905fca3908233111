/- The chapter's examples of layer 2. -/
import Derived.Test.YtmheblpgofeafaaDoorDigClimbT
import Derived.Test.YtmheblpgofeafaaDoorDigEq
import Derived.Test.YtmheblpgofeafaaDoorDigBuild
import Derived.Lib.Hide
import Derived.Lib.SmallJoins
namespace Go.Proofs.YtmheblpgofeafaaDoor
open Go.RowKit
set_option linter.unusedVariables false
set_option linter.unusedSimpArgs false

set_option maxRecDepth 100000 in
set_option maxHeartbeats 2000000 in
theorem path_low (p : Option Addr) (n cap : Nat) (a : Int) (w : World) (h : a < 0) :
    Calls Tryd.prog 21 #[.slice p n cap, .int .i64 a] w fun e w' => e = .returned (.tuple #[.slice none 0 0, .int .i64 1]) ∧ w' = w := by
  go_enter Tryd.func21, Tryd.ntmps21
  go_wp2_with fail
  go_ret2
  exact ⟨rfl, rfl⟩
set_option maxRecDepth 100000 in
set_option maxHeartbeats 2000000 in
theorem path_high (p : Option Addr) (n cap : Nat) (a : Int) (w : World) (h : ¬ a < 0) (h2 : (n : Int) ≤ a) :
    Calls Tryd.prog 21 #[.slice p n cap, .int .i64 a] w fun e w' => e = .returned (.tuple #[.slice none 0 0, .int .i64 1]) ∧ w' = w := by
  go_enter Tryd.func21, Tryd.ntmps21
  go_wp2_with fail
  go_ret2
  exact ⟨rfl, rfl⟩

theorem one_rep : (#[.int .u8 1, .int .u8 0, .int .u8 0, .int .u8 0, .int .u8 0, .int .u8 0, .int .u8 0, .int .u8 0, .int .u8 0, .int .u8 0, .int .u8 0, .int .u8 0, .int .u8 0, .int .u8 0, .int .u8 0, .int .u8 0, .int .u8 0, .int .u8 0, .int .u8 0, .int .u8 0, .int .u8 0, .int .u8 0, .int .u8 0, .int .u8 0, .int .u8 0, .int .u8 0, .int .u8 0, .int .u8 0, .int .u8 0, .int .u8 0, .int .u8 0, .int .u8 0] : Array Value) = (bv (1 :: List.replicate 31 0)).toArray := rfl
theorem one_len : (1 :: List.replicate 31 (0 : Int)).length = 32 := rfl
theorem one_rng : ∀ z ∈ (1 :: List.replicate 31 (0 : Int)), 0 ≤ z ∧ z ≤ 255 := by decide
theorem zero_rng (n : Nat) : ∀ z ∈ List.replicate n (0 : Int), 0 ≤ z ∧ z ≤ 255 := by
  intro z hz
  have := (List.mem_replicate.1 hz).2
  omega

/-- the digests of the two examples, known where they are looked at -/
structure Known (da db : List Int) : Prop where
  a0 : da.getD 0 0 = 186
  a1 : da.getD 1 0 = 120
  a2 : da.getD 2 0 = 22
  a3 : da.getD 3 0 = 191
  b0 : db.getD 0 0 = 227
  b1 : db.getD 1 0 = 176
  b2 : db.getD 2 0 = 196
  b3 : db.getD 3 0 = 66
theorem known_ex : ∃ da db, IsSha [97, 98, 99] da ∧ IsSha [] db ∧ Known da db :=
  ⟨_, _, ⟨rfl⟩, ⟨rfl⟩, by rw [abc_sum, nul_sum]; exact ⟨rfl, rfl, rfl, rfl, rfl, rfl, rfl, rfl⟩⟩

set_option maxRecDepth 100000 in
set_option maxHeartbeats 4000000 in
theorem dsane_any (w : World) (hk : Hid (KeysAt w)) : Calls Tryd.prog 13 #[] w fun e w' => e = .returned (.bool true) ∧ Below w.heap.size w w' := by
  obtain ⟨da, db, ha0, hb0, hkn⟩ := known_ex
  have HA := Lib.hid ha0
  have HB := Lib.hid hb0
  have HK := Lib.hid hkn
  clear ha0 hb0 hkn
  have kc := Lib.run_convert_bytes_const (P := Tryd.prog) w 22 5 #[.int .u8 97, .int .u8 98, .int .u8 99] 3 3 Tryd.underlying22 Tryd.underlying5
  go_enter Tryd.func13, Tryd.ntmps13
  go_wp2_with fail
  have F1 := Lib.hid (heap_alloc_new w (.cells #[.int .u8 97, .int .u8 98, .int .u8 99] 5 (3, 4)))
  refine (sum_any (some ⟨w.heap.size, 0, none⟩) 3 3 [97, 98, 99] _ (Lib.hid (.inl ⟨rfl, .inr ⟨w.heap.size, 0, rfl, by simp, ?c1⟩⟩)) (Lib.hid (by simp)) (by omega) (by omega) (by omega) (Lib.hid (hk.out.below (bel_alloc1 w _))) da HA).mono ?_
  case c1 =>
    intro j hj
    have h := F1.out
    rcases (by simp at hj; omega : j = 0 ∨ j = 1 ∨ j = 2) with rfl | rfl | rfl
    all_goals (simp only [World.cell?, Nat.zero_add]; erw [h]; rfl)
  rintro e w1 ⟨rfl, hb1⟩
  have B1 := Lib.hid ((bel_alloc1 w _).trans (hb1.mono (by simp)))
  clear hb1 kc F1
  go_wp2_with fail
  refine (sum_any none 0 0 [] w1 (Lib.hid (.inl ⟨rfl, .inl ⟨rfl, rfl, rfl⟩⟩)) (Lib.hid (by simp)) (by omega) (by omega) (by omega) (Lib.hid (hk.out.below B1.out)) db HB).mono ?_
  rintro e w2 ⟨rfl, hb2⟩
  have B2 := Lib.hid (B1.out.trans (hb2.mono B1.out.size))
  clear hb2 B1
  have lda : da.length = 32 := by rw [← HA.out.eq]; exact sha_len _
  have ldb : db.length = 32 := by rw [← HB.out.eq]; exact sha_len _
  have LA := Lib.hid lda
  have LB := Lib.hid ldb
  have q1 := size32 da lda
  have q2 := size32 db ldb
  have q3 := all_oneCell_toArray (bv_one da)
  have q4 := all_oneCell_toArray (bv_one db)
  have z1 : Blk ((w2.alloc (.cells #[.int .u8 0, .int .u8 0, .int .u8 0, .int .u8 0, .int .u8 0, .int .u8 0, .int .u8 0, .int .u8 0, .int .u8 0, .int .u8 0, .int .u8 0, .int .u8 0, .int .u8 0, .int .u8 0, .int .u8 0, .int .u8 0, .int .u8 0, .int .u8 0, .int .u8 0, .int .u8 0, .int .u8 0, .int .u8 0, .int .u8 0, .int .u8 0, .int .u8 0, .int .u8 0, .int .u8 0, .int .u8 0, .int .u8 0, .int .u8 0, .int .u8 0, .int .u8 0] 26)).alloc (.cells #[.int .u8 0, .int .u8 0, .int .u8 0, .int .u8 0, .int .u8 0, .int .u8 0, .int .u8 0, .int .u8 0, .int .u8 0, .int .u8 0, .int .u8 0, .int .u8 0, .int .u8 0, .int .u8 0, .int .u8 0, .int .u8 0, .int .u8 0, .int .u8 0, .int .u8 0, .int .u8 0, .int .u8 0, .int .u8 0, .int .u8 0, .int .u8 0, .int .u8 0, .int .u8 0, .int .u8 0, .int .u8 0, .int .u8 0, .int .u8 0, .int .u8 0, .int .u8 0] 26)) w2.heap.size (bv (List.replicate 32 0)).toArray 26 := (zeros32 w2).alloc _
  have z2 : Blk ((w2.alloc (.cells #[.int .u8 0, .int .u8 0, .int .u8 0, .int .u8 0, .int .u8 0, .int .u8 0, .int .u8 0, .int .u8 0, .int .u8 0, .int .u8 0, .int .u8 0, .int .u8 0, .int .u8 0, .int .u8 0, .int .u8 0, .int .u8 0, .int .u8 0, .int .u8 0, .int .u8 0, .int .u8 0, .int .u8 0, .int .u8 0, .int .u8 0, .int .u8 0, .int .u8 0, .int .u8 0, .int .u8 0, .int .u8 0, .int .u8 0, .int .u8 0, .int .u8 0, .int .u8 0] 26)).alloc (.cells #[.int .u8 0, .int .u8 0, .int .u8 0, .int .u8 0, .int .u8 0, .int .u8 0, .int .u8 0, .int .u8 0, .int .u8 0, .int .u8 0, .int .u8 0, .int .u8 0, .int .u8 0, .int .u8 0, .int .u8 0, .int .u8 0, .int .u8 0, .int .u8 0, .int .u8 0, .int .u8 0, .int .u8 0, .int .u8 0, .int .u8 0, .int .u8 0, .int .u8 0, .int .u8 0, .int .u8 0, .int .u8 0, .int .u8 0, .int .u8 0, .int .u8 0, .int .u8 0] 26)) (w2.heap.size + 1) (bv (List.replicate 32 0)).toArray 26 := by
    have := zeros32 (w2.alloc (.cells #[.int .u8 0, .int .u8 0, .int .u8 0, .int .u8 0, .int .u8 0, .int .u8 0, .int .u8 0, .int .u8 0, .int .u8 0, .int .u8 0, .int .u8 0, .int .u8 0, .int .u8 0, .int .u8 0, .int .u8 0, .int .u8 0, .int .u8 0, .int .u8 0, .int .u8 0, .int .u8 0, .int .u8 0, .int .u8 0, .int .u8 0, .int .u8 0, .int .u8 0, .int .u8 0, .int .u8 0, .int .u8 0, .int .u8 0, .int .u8 0, .int .u8 0, .int .u8 0] 26))
    rwa [alloc_sz] at this
  have z3 := Blk.others (show w2.heap.size + 1 ≠ w2.heap.size by omega) (bv da).toArray.toList 0 z2
  have q5 : ((w2.alloc (.cells #[.int .u8 0, .int .u8 0, .int .u8 0, .int .u8 0, .int .u8 0, .int .u8 0, .int .u8 0, .int .u8 0, .int .u8 0, .int .u8 0, .int .u8 0, .int .u8 0, .int .u8 0, .int .u8 0, .int .u8 0, .int .u8 0, .int .u8 0, .int .u8 0, .int .u8 0, .int .u8 0, .int .u8 0, .int .u8 0, .int .u8 0, .int .u8 0, .int .u8 0, .int .u8 0, .int .u8 0, .int .u8 0, .int .u8 0, .int .u8 0, .int .u8 0, .int .u8 0] 26)).alloc (.cells #[.int .u8 0, .int .u8 0, .int .u8 0, .int .u8 0, .int .u8 0, .int .u8 0, .int .u8 0, .int .u8 0, .int .u8 0, .int .u8 0, .int .u8 0, .int .u8 0, .int .u8 0, .int .u8 0, .int .u8 0, .int .u8 0, .int .u8 0, .int .u8 0, .int .u8 0, .int .u8 0, .int .u8 0, .int .u8 0, .int .u8 0, .int .u8 0, .int .u8 0, .int .u8 0, .int .u8 0, .int .u8 0, .int .u8 0, .int .u8 0, .int .u8 0, .int .u8 0] 26)).there w2.heap.size 0 (bv da).toArray.size := by have := z1.there; simp only [bv_len, List.length_replicate] at this; simp only [List.size_toArray, bv_len, lda]; exact this
  have q6 : (((w2.alloc (.cells #[.int .u8 0, .int .u8 0, .int .u8 0, .int .u8 0, .int .u8 0, .int .u8 0, .int .u8 0, .int .u8 0, .int .u8 0, .int .u8 0, .int .u8 0, .int .u8 0, .int .u8 0, .int .u8 0, .int .u8 0, .int .u8 0, .int .u8 0, .int .u8 0, .int .u8 0, .int .u8 0, .int .u8 0, .int .u8 0, .int .u8 0, .int .u8 0, .int .u8 0, .int .u8 0, .int .u8 0, .int .u8 0, .int .u8 0, .int .u8 0, .int .u8 0, .int .u8 0] 26)).alloc (.cells #[.int .u8 0, .int .u8 0, .int .u8 0, .int .u8 0, .int .u8 0, .int .u8 0, .int .u8 0, .int .u8 0, .int .u8 0, .int .u8 0, .int .u8 0, .int .u8 0, .int .u8 0, .int .u8 0, .int .u8 0, .int .u8 0, .int .u8 0, .int .u8 0, .int .u8 0, .int .u8 0, .int .u8 0, .int .u8 0, .int .u8 0, .int .u8 0, .int .u8 0, .int .u8 0, .int .u8 0, .int .u8 0, .int .u8 0, .int .u8 0, .int .u8 0, .int .u8 0] 26)).setCells w2.heap.size 0 (bv da).toArray.toList).there (w2.heap.size + 1) 0 (bv db).toArray.size := by have := z3.there; simp only [bv_len, List.length_replicate] at this; simp only [List.size_toArray, bv_len, ldb]; exact this
  have Z1 := Lib.hid z1
  have Z3 := Lib.hid z3
  clear z1 z2 z3 lda ldb
  go_upto_region 2 with (first
    | refine wpList_store_mid rfl 26 (.tmp 1) (.tmp 12) rfl w2.heap.size 0 (bv da).toArray rfl rfl q5 q1 q3 ?_
    | refine wpList_store_mid rfl 26 (.tmp 2) (.tmp 13) rfl (w2.heap.size + 1) 0 (bv db).toArray rfl rfl q6 q2 q4 ?_)
  simp only [Act.put]
  generalize hW : World.setCells _ _ _ _ = W3
  have A3 := Lib.hid (show Blk W3 w2.heap.size (bv da).toArray 26 by rw [← hW]; exact Blk.others (by omega) _ 0 (Z1.out.fill (by rw [bv_len, bv_len, List.length_replicate, LA.out])))
  have C3 := Lib.hid (show Blk W3 (w2.heap.size + 1) (bv db).toArray 26 by rw [← hW]; exact Z3.out.fill (by rw [bv_len, bv_len, List.length_replicate, LB.out]))
  have B3 := Lib.hid (show Below w.heap.size w W3 by rw [← hW]; exact setCells_below (by have := B2.out.size; omega) _ _ (setCells_below B2.out.size _ _ ((B2.out.alloc B2.out.size _).alloc (by have := B2.out.size; simp; omega) _)))
  clear hW q1 q2 q3 q4 q5 q6 Z1 Z3
  have lw : w.heap.size ≤ w2.heap.size := B2.out.size
  clear B2
  obtain ⟨ab, hab⟩ : ∃ ab, w2.heap.size = ab := ⟨_, rfl⟩
  rw [hab] at A3 C3 lw ⊢
  clear hab
  go_wp2_with fail
  refine (path_high none 0 0 0 W3 (by omega) (by omega)).mono ?_; rintro e w' ⟨rfl, rfl⟩
  go_wp2_with fail
  obtain ⟨zs, hzs⟩ : ∃ zs, List.replicate 32 (0 : Int) = zs := ⟨_, rfl⟩
  have ZR := zeros_rep
  rw [hzs] at ZR
  rw [ZR]
  have HZS := Lib.hid hzs
  have HZR := Lib.hid ZR
  clear ZR hzs
  have LZ : Hid (zs.length = 32) := Lib.hid (by rw [← HZS.out, List.length_replicate])
  have RZ : Hid (∀ z ∈ zs, 0 ≤ z ∧ z ≤ 255) := Lib.hid (by rw [← HZS.out]; exact zero_rng 32)
  refine (climbTop_any 0 2 none 0 0 [] zs zs 1 w' (.inr ⟨.inr (.inr (.inr (.inr ⟨0, 2, 1, rfl, rfl, by omega, by omega, .left 0 2 1 0 (by omega) (by decide) (by omega) (.done 0 1 (by omega)), by omega⟩))), HZS.out.symm, rfl⟩) (Lib.hid ⟨rfl, by omega, by decide, .inl ⟨rfl, fun _ => rfl⟩⟩) (Lib.hid (by simp)) LZ RZ (Lib.hid (hk.out.below B3.out))).mono ?_
  rintro e w4 ⟨rfl, hb4⟩
  have B4 := Lib.hid (B3.out.trans (hb4.mono B3.out.size))
  have A4 := Lib.hid (A3.out.below hb4 A3.out.lt)
  have C4 := Lib.hid (C3.out.below hb4 C3.out.lt)
  clear hb4 B3 A3 C3
  have lz5 := LZ.out
  have p1 := size32 zs lz5
  have p2 := all_oneCell_toArray (bv_one zs)
  have p3 : (w4.alloc (.cells #[.int .u8 0, .int .u8 0, .int .u8 0, .int .u8 0, .int .u8 0, .int .u8 0, .int .u8 0, .int .u8 0, .int .u8 0, .int .u8 0, .int .u8 0, .int .u8 0, .int .u8 0, .int .u8 0, .int .u8 0, .int .u8 0, .int .u8 0, .int .u8 0, .int .u8 0, .int .u8 0, .int .u8 0, .int .u8 0, .int .u8 0, .int .u8 0, .int .u8 0, .int .u8 0, .int .u8 0, .int .u8 0, .int .u8 0, .int .u8 0, .int .u8 0, .int .u8 0] 26)).there w4.heap.size 0 (bv zs).toArray.size := by have := (zeros32 w4).there; simp only [bv_len, List.length_replicate] at this; simp only [List.size_toArray, bv_len, lz5]; exact this
  clear lz5
  go_upto_region 4 with (refine wpList_store_mid rfl 26 (.tmp 5) (.tmp 21) rfl w4.heap.size 0 (bv zs).toArray rfl rfl p3 p1 p2 ?_)
  generalize hW : World.setCells _ _ _ _ = W5
  have D5 := Lib.hid (show Blk W5 w4.heap.size (bv zs).toArray 26 by rw [← hW]; exact (zeros32 w4).fill (by rw [bv_len, bv_len, List.length_replicate, LZ.out]))
  have A5 := Lib.hid (show Blk W5 _ _ _ by rw [← hW]; exact Blk.others (Nat.ne_of_lt A4.out.lt) _ _ (A4.out.alloc _))
  have C5 := Lib.hid (show Blk W5 _ _ _ by rw [← hW]; exact Blk.others (Nat.ne_of_lt C4.out.lt) _ _ (C4.out.alloc _))
  have B5 := Lib.hid (show Below w.heap.size w W5 by rw [← hW]; exact setCells_below B4.out.size _ _ (B4.out.alloc B4.out.size _))
  clear hW p1 p2 p3 B4 A4 C4 D5
  obtain ⟨os, hos⟩ : ∃ os, (1 :: List.replicate 31 (0 : Int)) = os := ⟨_, rfl⟩
  have LO : Hid (os.length = 32) := Lib.hid (by rw [← hos]; exact one_len)
  have RO : Hid (∀ z ∈ os, 0 ≤ z ∧ z ≤ 255) := Lib.hid (by rw [← hos]; exact one_rng)
  have OR0 := one_rep
  rw [hos] at OR0
  have HOR := Lib.hid OR0
  clear OR0 hos
  obtain ⟨rs, hrs⟩ := isTag_ex (strL sLeaf) os
  have HRS := Lib.hid hrs
  have LR := Lib.hid hrs.len
  clear hrs
  go_wp2_with fail
  rw [HOR.out]
  refine (climbTop_any 0 1 none 0 0 [] os rs 0 W5 (.inl ⟨0, 1, rfl, rfl, by omega, by omega, .done 0 1 (by omega), .one 0 _ _ HRS.out, rfl⟩) (Lib.hid ⟨rfl, by omega, by decide, .inl ⟨rfl, fun _ => rfl⟩⟩) (Lib.hid (by simp)) LO RO (Lib.hid (hk.out.below B5.out))).mono ?_
  rintro e w6 ⟨rfl, hb6⟩
  have B6 := Lib.hid (B5.out.trans (hb6.mono B5.out.size))
  have A6 := Lib.hid (A5.out.below hb6 A5.out.lt)
  have C6 := Lib.hid (C5.out.below hb6 C5.out.lt)
  clear hb6 B5 A5 C5
  have lz7 := LR.out
  have p1 := size32 rs lz7
  have p2 := all_oneCell_toArray (bv_one rs)
  have p3 : (w6.alloc (.cells #[.int .u8 0, .int .u8 0, .int .u8 0, .int .u8 0, .int .u8 0, .int .u8 0, .int .u8 0, .int .u8 0, .int .u8 0, .int .u8 0, .int .u8 0, .int .u8 0, .int .u8 0, .int .u8 0, .int .u8 0, .int .u8 0, .int .u8 0, .int .u8 0, .int .u8 0, .int .u8 0, .int .u8 0, .int .u8 0, .int .u8 0, .int .u8 0, .int .u8 0, .int .u8 0, .int .u8 0, .int .u8 0, .int .u8 0, .int .u8 0, .int .u8 0, .int .u8 0] 26)).there w6.heap.size 0 (bv rs).toArray.size := by have := (zeros32 w6).there; simp only [bv_len, List.length_replicate] at this; simp only [List.size_toArray, bv_len, lz7]; exact this
  clear lz7
  go_upto_region 5 with (refine wpList_store_mid rfl 26 (.tmp 7) (.tmp 26) rfl w6.heap.size 0 (bv rs).toArray rfl rfl p3 p1 p2 ?_)
  generalize hW : World.setCells _ _ _ _ = W7
  have R7 := Lib.hid (show Blk W7 w6.heap.size (bv rs).toArray 26 by rw [← hW]; exact (zeros32 w6).fill (by rw [bv_len, bv_len, List.length_replicate, LR.out]))
  have A7 := Lib.hid (show Blk W7 _ _ _ by rw [← hW]; exact Blk.others (Nat.ne_of_lt A6.out.lt) _ _ (A6.out.alloc _))
  have C7 := Lib.hid (show Blk W7 _ _ _ by rw [← hW]; exact Blk.others (Nat.ne_of_lt C6.out.lt) _ _ (C6.out.alloc _))
  have B7 := Lib.hid (show Below w.heap.size w W7 by rw [← hW]; exact setCells_below B6.out.size _ _ (B6.out.alloc B6.out.size _))
  clear hW p1 p2 p3 B6 A6 C6
  have c0 := A7.out.cell 0
  rw [bv_get da 0 (by have := LA.out; omega), HK.out.a0] at c0
  have c1 := A7.out.cell 1
  rw [bv_get da 1 (by have := LA.out; omega), HK.out.a1] at c1
  have c2 := A7.out.cell 2
  rw [bv_get da 2 (by have := LA.out; omega), HK.out.a2] at c2
  have c3 := A7.out.cell 3
  rw [bv_get da 3 (by have := LA.out; omega), HK.out.a3] at c3
  have d0 := C7.out.cell 0
  rw [bv_get db 0 (by have := LB.out; omega), HK.out.b0] at d0
  have d1 := C7.out.cell 1
  rw [bv_get db 1 (by have := LB.out; omega), HK.out.b1] at d1
  have d2 := C7.out.cell 2
  rw [bv_get db 2 (by have := LB.out; omega), HK.out.b2] at d2
  have d3 := C7.out.cell 3
  rw [bv_get db 3 (by have := LB.out; omega), HK.out.b3] at d3
  go_upto_region 6 with (fail)
  clear c0 c1 c2 c3 d0 d1 d2 d3
  refine wp_region_any (by kernel_rfl) ?_
  change wpAny _ _ _ _ _ _ _ (World.drew _)
  refine any_prefix [0, 1, 2, 3, 4, 5, 6, 7, 8, 9, 10, 11, 12, 13] 20 rfl (by decide) (by kernel_rfl) ?_
  simp only [Act.put, List.filterMap_cons, List.filterMap_nil, List.getElem?_cons_succ, List.getElem?_cons_zero]
  go_wp2_with fail
  change wpAny _ _ _ _ 20 (setAll _ _) _ _
  refine wpAny_take (i := 15) (v := .agg (bv os).toArray) rfl (by kernel_rfl) (by kernel_rfl) (by kernel_rfl) (fun _ _ _ h => h) (Or.inl ⟨by rfl, ?y15⟩) ?_
  case y15 => intro u; rw [← HOR.out]; go_simp
  have qr := size32' rs LR.out
  have u26 := Tryd.underlying26
  have EQ1 := eqDig_same rs LR.out
  obtain ⟨es, hes⟩ := isTag_ex (strL sEmpty) []
  obtain ⟨cs, hcs⟩ := isTag_ex (strL ⟨#[99, 104, 97, 105, 110]⟩) (zs ++ zs)
  have HE := Lib.hid hes
  have HC := Lib.hid hcs
  have EQ2 := eqDig_same es hes.len
  have EQ3 := eqDig_same cs hcs.len
  obtain ⟨te, hte, hse⟩ := hes
  obtain ⟨tc, htc, hsc⟩ := hcs
  have HTE := Lib.hid hte
  have HSE := Lib.hid hse
  have HTC := Lib.hid htc
  have HSC := Lib.hid hsc
  clear hte hse htc hsc
  have LO2 : Hid ((bv os).length = 32) := Lib.hid (by rw [bv_len]; exact LO.out)
  have RB := Lib.hid (R7.out.lt)
  have HDR := Lib.hid B7.out.drew
  have HZ2 : Hid (List.replicate 64 0 = zs ++ zs ∧ (zs ++ zs).length = 64) := Lib.hid (by rw [← HZS.out]; exact ⟨rfl, rfl⟩)
  refine any_two 14 16 18 _ _ rfl rfl (by kernel_rfl) ?p1 ?p2
  case p1 =>
    refine list_load (by rfl) 26 (.tmp 7) rfl w6.heap.size 0 rfl (bv rs) _ R7.out.range u26 rfl qr ?_
    change wpAny _ _ _ _ 18 _ _ _
    refine any_prefix [16, 17, 18, 19, 20, 21, 22, 23, 24, 25] 8 rfl (by decide) (by kernel_rfl) ?_
    simp only [Act.put, List.filterMap_cons, List.filterMap_nil, List.getElem?_cons_succ, List.getElem?_cons_zero]
    refine list_build1 (by rfl) (.tmp 81) rfl (bv os) rfl LO2.out ?_
    generalize hW8 : World.alloc _ _ = W8
    have O8 := Lib.hid (show Blk W8 W7.heap.size (bv os).toArray 26 by rw [← hW8]; exact Blk.new W7.drew _ _)
    have R8 := Lib.hid (show Blk W8 w6.heap.size (bv rs).toArray 26 by rw [← hW8]; exact Blk.alloc (W := W7.drew) R7.out _)
    have B8 := Lib.hid (show Below w.heap.size w W8 by rw [← hW8]; exact HDR.out.alloc HDR.out.size _)
    clear hW8
    go_wp2_with fail
    refine (tree_any 1 os rs (.one os rs LO.out HRS.out) (some ⟨W7.heap.size, 0, none⟩) 1 W8 (Lib.hid ⟨by rw [LO.out], by omega, by decide, .inr ⟨W7.heap.size, 0, rfl, O8.out.lt, bytes_run O8.out⟩⟩) RO (by omega) (Lib.hid (hk.out.below B8.out))).mono ?_
    rintro e w9 ⟨rfl, hb9⟩
    have R9 := Lib.hid (R8.out.below hb9 R8.out.lt)
    have B9 := Lib.hid (B8.out.trans (hb9.mono B8.out.size))
    clear hb9 R8 B8 O8
    go_wp2_with fail
    refine (tree_any 0 [] es (.zero es HE.out) none 0 w9 (Lib.hid ⟨rfl, by omega, by decide, .inl ⟨rfl, fun _ => rfl⟩⟩) (Lib.hid (by simp)) (by omega) (Lib.hid (hk.out.below B9.out))).mono ?_
    rintro e w10 ⟨rfl, hb10⟩
    have B10 := Lib.hid (B9.out.trans (hb10.mono B9.out.size))
    clear hb10 B9
    go_wp2_with fail
    refine (tagged_any sEmpty none 0 0 [] w10 (Lib.hid (.inl ⟨rfl, .inl ⟨rfl, rfl, rfl⟩⟩)) (Lib.hid (by simp)) (by decide) (by decide) (Lib.hid (hk.out.below B10.out)) te es HTE HSE).mono ?_
    rintro e w11 ⟨rfl, hb11⟩
    have B11 := Lib.hid (B10.out.trans (hb11.mono B10.out.size))
    clear hb11 B10
    go_wp2_with fail
    change wpAny _ _ _ _ 8 (setAll _ _) _ _
    refine wpAny_take (i := 26) (v := .agg (bv zs).toArray) rfl (by kernel_rfl) (by kernel_rfl) (by kernel_rfl) (fun _ _ _ h => h) (Or.inl ⟨by rfl, ?y26⟩) ?_
    case y26 => intro u; rw [← HZR.out]; go_simp
    refine wpAny_take (i := 27) (v := .agg (bv zs).toArray) rfl (by kernel_rfl) (by kernel_rfl) (by kernel_rfl) (fun _ _ _ h => h) (Or.inl ⟨by rfl, ?y27⟩) ?_
    case y27 => intro u; rw [← HZR.out]; go_simp
    refine any_two 28 29 5 _ _ rfl rfl (by kernel_rfl) ?r1 ?r2
    case r1 =>
      simp only [Act.put]
      go_wp2_with fail
      refine (chain_any zs zs cs w11 LZ LZ RZ RZ (Lib.hid (hk.out.below B11.out)) HC).mono ?_
      rintro e w12 ⟨rfl, hb12⟩
      have B12 := Lib.hid (B11.out.trans (hb12.mono B11.out.size))
      clear hb12 B11
      go_wp2_with fail
      change wpAny _ _ _ _ 5 _ _ _
      have MK := run_make64 w12
      refine any_order [29, 30, 31, 32, 33] rfl (by decide) (by kernel_rfl) ?_
      simp only [Act.put, List.filterMap_cons, List.filterMap_nil, List.getElem?_cons_succ, List.getElem?_cons_zero]
      go_wp2_with fail
      clear MK
      generalize hW13 : World.alloc _ _ = W13
      have M13 := Lib.hid (show Blk W13 w12.heap.size (bv (List.replicate 64 0)).toArray 5 by rw [← hW13]; exact Blk.new w12 _ _)
      have B13 := Lib.hid (show Below w.heap.size w W13 by rw [← hW13]; exact B12.out.alloc B12.out.size _)
      clear hW13 B12
      refine (tagged_any _ (some ⟨w12.heap.size, 0, none⟩) 64 64 (zs ++ zs) W13 (Lib.hid (.inl ⟨HZ2.out.2.symm, .inr ⟨w12.heap.size, 0, rfl, M13.out.lt, by rw [← HZ2.out.1]; exact bytes_run M13.out⟩⟩)) (Lib.hid (rng_append RZ.out RZ.out)) (by decide) (by decide) (Lib.hid (hk.out.below B13.out)) tc cs HTC HSC).mono ?_
      rintro e w14 ⟨rfl, hb14⟩
      have B14 := Lib.hid (B13.out.trans (hb14.mono B13.out.size))
      clear hb14 B13 M13
      go_wp2_with fail
      go_ret
      exact ⟨rfl, B14.out⟩
    case r2 =>
      simp only [Act.put]
      have MK := run_make64 w11
      go_wp2_with fail
      change wpAny _ _ _ _ 5 _ _ _
      clear MK
      generalize hW13 : World.alloc _ _ = W13
      have M13 := Lib.hid (show Blk W13 w11.heap.size (bv (List.replicate 64 0)).toArray 5 by rw [← hW13]; exact Blk.new w11 _ _)
      have B13 := Lib.hid (show Below w.heap.size w W13 by rw [← hW13]; exact B11.out.alloc B11.out.size _)
      clear hW13 B11
      refine any_order [28, 30, 31, 32, 33] rfl (by decide) (by kernel_rfl) ?_
      simp only [Act.put, List.filterMap_cons, List.filterMap_nil, List.getElem?_cons_succ, List.getElem?_cons_zero]
      go_wp2_with fail
      refine (chain_any zs zs cs W13 LZ LZ RZ RZ (Lib.hid (hk.out.below B13.out)) HC).mono ?_
      rintro e w14 ⟨rfl, hb14⟩
      have B14 := Lib.hid (B13.out.trans (hb14.mono B13.out.size))
      have M14 := Lib.hid (M13.out.below hb14 M13.out.lt)
      clear hb14 B13 M13
      go_wp2_with fail
      refine (tagged_any _ (some ⟨w11.heap.size, 0, none⟩) 64 64 (zs ++ zs) w14 (Lib.hid (.inl ⟨HZ2.out.2.symm, .inr ⟨w11.heap.size, 0, rfl, M14.out.lt, by rw [← HZ2.out.1]; exact bytes_run M14.out⟩⟩)) (Lib.hid (rng_append RZ.out RZ.out)) (by decide) (by decide) (Lib.hid (hk.out.below B14.out)) tc cs HTC HSC).mono ?_
      rintro e w15 ⟨rfl, hb15⟩
      have B15 := Lib.hid (B14.out.trans (hb15.mono B14.out.size))
      clear hb15 B14 M14
      go_wp2_with fail
      go_ret
      exact ⟨rfl, B15.out⟩
  case p2 =>
    refine list_build1 (by rfl) (.tmp 81) rfl (bv os) rfl LO2.out ?_
    generalize hW8 : World.alloc _ _ = W8
    have O8 := Lib.hid (show Blk W8 W7.heap.size (bv os).toArray 26 by rw [← hW8]; exact Blk.new W7.drew _ _)
    have R8 := Lib.hid (show Blk W8 w6.heap.size (bv rs).toArray 26 by rw [← hW8]; exact Blk.alloc (W := W7.drew) R7.out _)
    have B8 := Lib.hid (show Below w.heap.size w W8 by rw [← hW8]; exact HDR.out.alloc HDR.out.size _)
    clear hW8
    change wpAny _ _ _ _ 18 _ _ _
    refine any_two 14 17 17 _ _ rfl rfl (by kernel_rfl) ?q1 ?q2
    case q1 =>
      refine list_load (by rfl) 26 (.tmp 7) rfl w6.heap.size 0 rfl (bv rs) _ R8.out.range u26 rfl qr ?_
      change wpAny _ _ _ _ 17 _ _ _
      refine any_prefix [17, 18, 19, 20, 21, 22, 23, 24, 25] 8 rfl (by decide) (by kernel_rfl) ?_
      simp only [Act.put, List.filterMap_cons, List.filterMap_nil, List.getElem?_cons_succ, List.getElem?_cons_zero]
      go_wp2_with fail
      refine (tree_any 1 os rs (.one os rs LO.out HRS.out) (some ⟨W7.heap.size, 0, none⟩) 1 W8 (Lib.hid ⟨by rw [LO.out], by omega, by decide, .inr ⟨W7.heap.size, 0, rfl, O8.out.lt, bytes_run O8.out⟩⟩) RO (by omega) (Lib.hid (hk.out.below B8.out))).mono ?_
      rintro e w9 ⟨rfl, hb9⟩
      have R9 := Lib.hid (R8.out.below hb9 R8.out.lt)
      have B9 := Lib.hid (B8.out.trans (hb9.mono B8.out.size))
      clear hb9 R8 B8 O8
      go_wp2_with fail
      refine (tree_any 0 [] es (.zero es HE.out) none 0 w9 (Lib.hid ⟨rfl, by omega, by decide, .inl ⟨rfl, fun _ => rfl⟩⟩) (Lib.hid (by simp)) (by omega) (Lib.hid (hk.out.below B9.out))).mono ?_
      rintro e w10 ⟨rfl, hb10⟩
      have B10 := Lib.hid (B9.out.trans (hb10.mono B9.out.size))
      clear hb10 B9
      go_wp2_with fail
      refine (tagged_any sEmpty none 0 0 [] w10 (Lib.hid (.inl ⟨rfl, .inl ⟨rfl, rfl, rfl⟩⟩)) (Lib.hid (by simp)) (by decide) (by decide) (Lib.hid (hk.out.below B10.out)) te es HTE HSE).mono ?_
      rintro e w11 ⟨rfl, hb11⟩
      have B11 := Lib.hid (B10.out.trans (hb11.mono B10.out.size))
      clear hb11 B10
      go_wp2_with fail
      change wpAny _ _ _ _ 8 (setAll _ _) _ _
      refine wpAny_take (i := 26) (v := .agg (bv zs).toArray) rfl (by kernel_rfl) (by kernel_rfl) (by kernel_rfl) (fun _ _ _ h => h) (Or.inl ⟨by rfl, ?y26⟩) ?_
      case y26 => intro u; rw [← HZR.out]; go_simp
      refine wpAny_take (i := 27) (v := .agg (bv zs).toArray) rfl (by kernel_rfl) (by kernel_rfl) (by kernel_rfl) (fun _ _ _ h => h) (Or.inl ⟨by rfl, ?y27⟩) ?_
      case y27 => intro u; rw [← HZR.out]; go_simp
      refine any_two 28 29 5 _ _ rfl rfl (by kernel_rfl) ?r1 ?r2
      case r1 =>
        simp only [Act.put]
        go_wp2_with fail
        refine (chain_any zs zs cs w11 LZ LZ RZ RZ (Lib.hid (hk.out.below B11.out)) HC).mono ?_
        rintro e w12 ⟨rfl, hb12⟩
        have B12 := Lib.hid (B11.out.trans (hb12.mono B11.out.size))
        clear hb12 B11
        go_wp2_with fail
        change wpAny _ _ _ _ 5 _ _ _
        have MK := run_make64 w12
        refine any_order [29, 30, 31, 32, 33] rfl (by decide) (by kernel_rfl) ?_
        simp only [Act.put, List.filterMap_cons, List.filterMap_nil, List.getElem?_cons_succ, List.getElem?_cons_zero]
        go_wp2_with fail
        clear MK
        generalize hW13 : World.alloc _ _ = W13
        have M13 := Lib.hid (show Blk W13 w12.heap.size (bv (List.replicate 64 0)).toArray 5 by rw [← hW13]; exact Blk.new w12 _ _)
        have B13 := Lib.hid (show Below w.heap.size w W13 by rw [← hW13]; exact B12.out.alloc B12.out.size _)
        clear hW13 B12
        refine (tagged_any _ (some ⟨w12.heap.size, 0, none⟩) 64 64 (zs ++ zs) W13 (Lib.hid (.inl ⟨HZ2.out.2.symm, .inr ⟨w12.heap.size, 0, rfl, M13.out.lt, by rw [← HZ2.out.1]; exact bytes_run M13.out⟩⟩)) (Lib.hid (rng_append RZ.out RZ.out)) (by decide) (by decide) (Lib.hid (hk.out.below B13.out)) tc cs HTC HSC).mono ?_
        rintro e w14 ⟨rfl, hb14⟩
        have B14 := Lib.hid (B13.out.trans (hb14.mono B13.out.size))
        clear hb14 B13 M13
        go_wp2_with fail
        go_ret
        exact ⟨rfl, B14.out⟩
      case r2 =>
        simp only [Act.put]
        have MK := run_make64 w11
        go_wp2_with fail
        change wpAny _ _ _ _ 5 _ _ _
        clear MK
        generalize hW13 : World.alloc _ _ = W13
        have M13 := Lib.hid (show Blk W13 w11.heap.size (bv (List.replicate 64 0)).toArray 5 by rw [← hW13]; exact Blk.new w11 _ _)
        have B13 := Lib.hid (show Below w.heap.size w W13 by rw [← hW13]; exact B11.out.alloc B11.out.size _)
        clear hW13 B11
        refine any_order [28, 30, 31, 32, 33] rfl (by decide) (by kernel_rfl) ?_
        simp only [Act.put, List.filterMap_cons, List.filterMap_nil, List.getElem?_cons_succ, List.getElem?_cons_zero]
        go_wp2_with fail
        refine (chain_any zs zs cs W13 LZ LZ RZ RZ (Lib.hid (hk.out.below B13.out)) HC).mono ?_
        rintro e w14 ⟨rfl, hb14⟩
        have B14 := Lib.hid (B13.out.trans (hb14.mono B13.out.size))
        have M14 := Lib.hid (M13.out.below hb14 M13.out.lt)
        clear hb14 B13 M13
        go_wp2_with fail
        refine (tagged_any _ (some ⟨w11.heap.size, 0, none⟩) 64 64 (zs ++ zs) w14 (Lib.hid (.inl ⟨HZ2.out.2.symm, .inr ⟨w11.heap.size, 0, rfl, M14.out.lt, by rw [← HZ2.out.1]; exact bytes_run M14.out⟩⟩)) (Lib.hid (rng_append RZ.out RZ.out)) (by decide) (by decide) (Lib.hid (hk.out.below B14.out)) tc cs HTC HSC).mono ?_
        rintro e w15 ⟨rfl, hb15⟩
        have B15 := Lib.hid (B14.out.trans (hb15.mono B14.out.size))
        clear hb15 B14 M14
        go_wp2_with fail
        go_ret
        exact ⟨rfl, B15.out⟩
    case q2 =>
      simp only [Act.put]
      go_wp2_with fail
      refine (tree_any 1 os rs (.one os rs LO.out HRS.out) (some ⟨W7.heap.size, 0, none⟩) 1 W8 (Lib.hid ⟨by rw [LO.out], by omega, by decide, .inr ⟨W7.heap.size, 0, rfl, O8.out.lt, bytes_run O8.out⟩⟩) RO (by omega) (Lib.hid (hk.out.below B8.out))).mono ?_
      rintro e w9 ⟨rfl, hb9⟩
      have R9 := Lib.hid (R8.out.below hb9 R8.out.lt)
      have B9 := Lib.hid (B8.out.trans (hb9.mono B8.out.size))
      clear hb9 R8 B8 O8
      go_wp2_with fail
      change wpAny _ _ _ _ 17 _ _ _
      refine any_prefix [14, 18, 19, 20, 21, 22, 23, 24, 25] 8 rfl (by decide) (by kernel_rfl) ?_
      simp only [Act.put, List.filterMap_cons, List.filterMap_nil, List.getElem?_cons_succ, List.getElem?_cons_zero]
      refine list_load (by rfl) 26 (.tmp 7) rfl w6.heap.size 0 rfl (bv rs) _ R9.out.range u26 rfl qr ?_
      simp only [Act.put]
      go_wp2_with fail
      refine (tree_any 0 [] es (.zero es HE.out) none 0 w9 (Lib.hid ⟨rfl, by omega, by decide, .inl ⟨rfl, fun _ => rfl⟩⟩) (Lib.hid (by simp)) (by omega) (Lib.hid (hk.out.below B9.out))).mono ?_
      rintro e w10 ⟨rfl, hb10⟩
      have B10 := Lib.hid (B9.out.trans (hb10.mono B9.out.size))
      clear hb10 B9
      go_wp2_with fail
      refine (tagged_any sEmpty none 0 0 [] w10 (Lib.hid (.inl ⟨rfl, .inl ⟨rfl, rfl, rfl⟩⟩)) (Lib.hid (by simp)) (by decide) (by decide) (Lib.hid (hk.out.below B10.out)) te es HTE HSE).mono ?_
      rintro e w11 ⟨rfl, hb11⟩
      have B11 := Lib.hid (B10.out.trans (hb11.mono B10.out.size))
      clear hb11 B10
      go_wp2_with fail
      change wpAny _ _ _ _ 8 (setAll _ _) _ _
      refine wpAny_take (i := 26) (v := .agg (bv zs).toArray) rfl (by kernel_rfl) (by kernel_rfl) (by kernel_rfl) (fun _ _ _ h => h) (Or.inl ⟨by rfl, ?y26⟩) ?_
      case y26 => intro u; rw [← HZR.out]; go_simp
      refine wpAny_take (i := 27) (v := .agg (bv zs).toArray) rfl (by kernel_rfl) (by kernel_rfl) (by kernel_rfl) (fun _ _ _ h => h) (Or.inl ⟨by rfl, ?y27⟩) ?_
      case y27 => intro u; rw [← HZR.out]; go_simp
      refine any_two 28 29 5 _ _ rfl rfl (by kernel_rfl) ?r1 ?r2
      case r1 =>
        simp only [Act.put]
        go_wp2_with fail
        refine (chain_any zs zs cs w11 LZ LZ RZ RZ (Lib.hid (hk.out.below B11.out)) HC).mono ?_
        rintro e w12 ⟨rfl, hb12⟩
        have B12 := Lib.hid (B11.out.trans (hb12.mono B11.out.size))
        clear hb12 B11
        go_wp2_with fail
        change wpAny _ _ _ _ 5 _ _ _
        have MK := run_make64 w12
        refine any_order [29, 30, 31, 32, 33] rfl (by decide) (by kernel_rfl) ?_
        simp only [Act.put, List.filterMap_cons, List.filterMap_nil, List.getElem?_cons_succ, List.getElem?_cons_zero]
        go_wp2_with fail
        clear MK
        generalize hW13 : World.alloc _ _ = W13
        have M13 := Lib.hid (show Blk W13 w12.heap.size (bv (List.replicate 64 0)).toArray 5 by rw [← hW13]; exact Blk.new w12 _ _)
        have B13 := Lib.hid (show Below w.heap.size w W13 by rw [← hW13]; exact B12.out.alloc B12.out.size _)
        clear hW13 B12
        refine (tagged_any _ (some ⟨w12.heap.size, 0, none⟩) 64 64 (zs ++ zs) W13 (Lib.hid (.inl ⟨HZ2.out.2.symm, .inr ⟨w12.heap.size, 0, rfl, M13.out.lt, by rw [← HZ2.out.1]; exact bytes_run M13.out⟩⟩)) (Lib.hid (rng_append RZ.out RZ.out)) (by decide) (by decide) (Lib.hid (hk.out.below B13.out)) tc cs HTC HSC).mono ?_
        rintro e w14 ⟨rfl, hb14⟩
        have B14 := Lib.hid (B13.out.trans (hb14.mono B13.out.size))
        clear hb14 B13 M13
        go_wp2_with fail
        go_ret
        exact ⟨rfl, B14.out⟩
      case r2 =>
        simp only [Act.put]
        have MK := run_make64 w11
        go_wp2_with fail
        change wpAny _ _ _ _ 5 _ _ _
        clear MK
        generalize hW13 : World.alloc _ _ = W13
        have M13 := Lib.hid (show Blk W13 w11.heap.size (bv (List.replicate 64 0)).toArray 5 by rw [← hW13]; exact Blk.new w11 _ _)
        have B13 := Lib.hid (show Below w.heap.size w W13 by rw [← hW13]; exact B11.out.alloc B11.out.size _)
        clear hW13 B11
        refine any_order [28, 30, 31, 32, 33] rfl (by decide) (by kernel_rfl) ?_
        simp only [Act.put, List.filterMap_cons, List.filterMap_nil, List.getElem?_cons_succ, List.getElem?_cons_zero]
        go_wp2_with fail
        refine (chain_any zs zs cs W13 LZ LZ RZ RZ (Lib.hid (hk.out.below B13.out)) HC).mono ?_
        rintro e w14 ⟨rfl, hb14⟩
        have B14 := Lib.hid (B13.out.trans (hb14.mono B13.out.size))
        have M14 := Lib.hid (M13.out.below hb14 M13.out.lt)
        clear hb14 B13 M13
        go_wp2_with fail
        refine (tagged_any _ (some ⟨w11.heap.size, 0, none⟩) 64 64 (zs ++ zs) w14 (Lib.hid (.inl ⟨HZ2.out.2.symm, .inr ⟨w11.heap.size, 0, rfl, M14.out.lt, by rw [← HZ2.out.1]; exact bytes_run M14.out⟩⟩)) (Lib.hid (rng_append RZ.out RZ.out)) (by decide) (by decide) (Lib.hid (hk.out.below B14.out)) tc cs HTC HSC).mono ?_
        rintro e w15 ⟨rfl, hb15⟩
        have B15 := Lib.hid (B14.out.trans (hb15.mono B14.out.size))
        clear hb15 B14 M14
        go_wp2_with fail
        go_ret
        exact ⟨rfl, B15.out⟩
end Go.Proofs.YtmheblpgofeafaaDoor
