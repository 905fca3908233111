/- The examples of the chapter on elgamal. -/
import Derived.Test.YtbmeljkdemdloaaElgSealY
import Derived.Test.YtbmeljkdemdloaaElgAgain
import Derived.Test.YtbmeljkdemdloaaElgEq
namespace Go.Proofs.Ytbmeljkdemdloaa
open Go.RowKit Go.Shelf
set_option linter.unusedVariables false

theorem elB_9 : elB 9 = true := elB_sq (n := 3) (by omega) (by omega)
theorem elB_16 : elB 16 = true := elB_sq (n := 4) (by omega) (by omega)
theorem elB_64 : elB 64 = true := elB_sq (n := 8) (by omega) (by omega)
theorem elB_144 : elB 144 = true := elB_sq (n := 12) (by omega) (by omega)
theorem elB_256 : elB 256 = true := elB_sq (n := 16) (by omega) (by omega)
theorem elB_2304 : elB 2304 = true := elB_sq (n := 48) (by omega) (by omega)

theorem pw_4_0 : powZ 4 0 = 1 := powZ_zero elB_4
theorem pw_16_0 : powZ 16 0 = 1 := powZ_zero elB_16
theorem pw_4_1 : powZ 4 1 = 4 := powZ_one elB_4
theorem pw_16_1 : powZ 16 1 = 16 := powZ_one elB_16
theorem pw_16_2 : powZ 16 2 = 256 := by rw [powZ_eq elB_16]; rfl
theorem pw_4_3 : powZ 4 3 = 64 := by rw [powZ_eq elB_4]; rfl
theorem ml (a b : Int) (ha : elB a = true) (hb : elB b = true) : mulZ a b = a * b % 2147483579 := mulZ_eq ha hb
theorem el_1 : elmZ 1 = 1 := by unfold elmZ; rw [elB_one]; rfl
theorem el_4 : elmZ 4 = 4 := by unfold elmZ; rw [elB_4]; rfl
theorem el_9 : elmZ 9 = 9 := by unfold elmZ; rw [elB_9]; rfl

theorem pw_1 (n : Int) : powZ 1 n = 1 := by
  rw [powZ_eq elB_one, powN_def]
  rw [show (1 : Int).toNat = 1 from rfl, Nat.one_pow]; rfl
theorem st_64 : mulZ 64 (powZ 4 (-2)) = 4 := by
  rw [← pw_4_3, powZ_add elB_4]; exact pw_4_1
theorem st_2304 : mulZ 2304 (powZ 16 (-2)) = 9 := by
  have h : (2304 : Int) = mulZ 9 (powZ 16 2) := by rw [pw_16_2, ml _ _ elB_9 elB_256]; rfl
  have k : elB (powZ 16 2) = true := powZ_el elB_16 2
  rw [h, mulZ_assoc elB_9 k (powZ_el elB_16 (-2)), powZ_add elB_16]
  rw [show (2 : Int) + -2 = 0 from rfl, pw_16_0, mulZ_one_r elB_9]
theorem ag_16 : mulZ 16 (powZ 4 (-1)) = 4 := by
  rw [← c_pow1, powZ_add elB_4]; exact pw_4_1
theorem ag_2304 : mulZ 2304 (powZ 16 (-1)) = 144 := by
  have h : (2304 : Int) = mulZ 144 (powZ 16 1) := by rw [pw_16_1, ml _ _ elB_144 elB_16]; rfl
  rw [h, mulZ_assoc elB_144 (powZ_el elB_16 1) (powZ_el elB_16 (-1)), powZ_add elB_16]
  rw [show (1 : Int) + -1 = 0 from rfl, pw_16_0, mulZ_one_r elB_144]

theorem m_1_1 : mulZ 1 1 = 1 := (ml 1 1 elB_one elB_one).trans rfl
theorem m_1_4 : mulZ 1 4 = 4 := (ml 1 4 elB_one elB_4).trans rfl
theorem m_4_16 : mulZ 4 16 = 64 := (ml 4 16 elB_4 elB_16).trans rfl
theorem m_1_16 : mulZ 1 16 = 16 := (ml 1 16 elB_one elB_16).trans rfl
theorem m_9_256 : mulZ 9 256 = 2304 := (ml 9 256 elB_9 elB_256).trans rfl
theorem m_4_1 : mulZ 4 1 = 4 := (ml 4 1 elB_4 elB_one).trans rfl
theorem m_64_1 : mulZ 64 1 = 64 := (ml 64 1 elB_64 elB_one).trans rfl

theorem x_seal : sealR 16 1 4 9 0 1 2 = ((1, 1), (4, 64), (16, 2304)) := by
  unfold sealR; rw [elB_16, if_pos rfl, if_pos (by decide)]
  simp [sealL, mapL, gMask, gSay, nth3, el_1, el_4, el_9, pw_4_0, pw_16_0, pw_4_1, pw_16_1, c_pow1, pw_16_2, m_1_1, m_1_4, m_4_16, m_1_16, m_9_256]
theorem x_sealE : sealE 16 1 4 9 = 0 := by unfold sealE; rw [elB_16]; rfl
theorem x_seal2 : sealR 4 0 1 1 0 0 0 = zeroL := by unfold sealR; rw [elB_4]; rfl
theorem x_sealE2 : sealE 4 0 1 1 = 100 := by unfold sealE; rw [elB_4]; rfl
theorem x_chk : chkE 1 1 4 64 16 2304 = 0 := by unfold chkE chkB six okC; simp [elB_one, elB_4, elB_64, elB_16, elB_2304]
theorem x_chk2 : chkE 1 1 4 4 16 9 = 0 := by unfold chkE chkB six okC; simp [elB_one, elB_4, elB_16, elB_9]
theorem x_chk0 : chkE 0 0 0 0 0 0 = 100 := by unfold chkE chkB six okC; simp [elB_0]
theorem x_strip : stripR 2 ((1, 1), (4, 64), (16, 2304)) = ((1, 1), (4, 4), (16, 9)) := by
  unfold stripR; rw [if_pos (by decide), if_pos x_chk]
  simp [mapL, gStrip, pw_1, st_64, st_2304, m_1_1]
theorem x_stripE : stripE 2 ((1, 1), (4, 64), (16, 2304)) = 0 := by unfold stripE; rw [if_pos (by decide)]; exact x_chk
theorem x_read : readR ((1, 1), (4, 4), (16, 9)) = (1, 4, 9) := by
  have h : readE ((1, 1), (4, 4), (16, 9)) = 0 := x_chk2
  unfold readR; rw [h, if_pos rfl]
  show ((numZ 1, numZ 4, numZ 9) : W3) = _
  unfold numZ; rw [elB_one, elB_4, elB_9]; rfl
theorem x_readE : readE ((1, 1), (4, 4), (16, 9)) = 0 := x_chk2
theorem x_again : againR 16 1 0 (-1) ((1, 1), (4, 64), (16, 2304)) = ((4, 16), (4, 64), (4, 144)) := by
  unfold againR; rw [elB_16, if_pos rfl, if_pos x_chk]
  simp [mapL, gMask, nth3, pw_4_1, pw_16_1, pw_4_0, pw_16_0, ag_16, ag_2304, m_1_4, m_1_16, m_4_1, m_64_1]
theorem x_againE : againE 16 ((1, 1), (4, 64), (16, 2304)) = 0 := by unfold againE; rw [elB_16, if_pos rfl]; exact x_chk
theorem x_pub : pubZ 2 = 16 := by unfold pubZ; rw [if_pos (by decide)]; exact c_pow1
theorem x_join : joinZ [4, 16] = 64 := by
  unfold joinZ; rw [if_pos (by simp [elB_4, elB_16])]
  rw [List.foldl_cons, List.foldl_cons, List.foldl_nil, m_1_4, m_4_16]
theorem x_joinE : joinE [4, 16] = 0 := by unfold joinE; rw [if_pos (by simp [elB_4, elB_16])]

theorem seal_c (key n0 n1 n2 r0 r1 r2 x0 x1 x2 x3 x4 x5 E : Int) (w : World) (h : sealR key n0 n1 n2 r0 r1 r2 = ((x0, x1), (x2, x3), (x4, x5))) (k : sealE key n0 n1 n2 = E) :
    Calls Try.prog 15 #[.int .i64 key, .agg #[.int .i64 n0, .int .i64 n1, .int .i64 n2], .agg #[.int .i64 r0, .int .i64 r1, .int .i64 r2]] w
      fun e w' => e = .returned (.tuple #[sealedV x0 x1 x2 x3 x4 x5, .int .i64 E]) ∧ Below w.heap.size w w' := by
  have := seal_any key n0 n1 n2 r0 r1 r2 w
  rw [h, k] at this; exact this
theorem strip_c (sec a0 b0 a1 b1 a2 b2 x0 x1 x2 x3 x4 x5 E : Int) (w : World) (h : stripR sec ((a0, b0), (a1, b1), (a2, b2)) = ((x0, x1), (x2, x3), (x4, x5))) (k : stripE sec ((a0, b0), (a1, b1), (a2, b2)) = E) :
    Calls Try.prog 22 #[.int .i64 sec, sealedV a0 b0 a1 b1 a2 b2] w
      fun e w' => e = .returned (.tuple #[sealedV x0 x1 x2 x3 x4 x5, .int .i64 E]) ∧ Below w.heap.size w w' := by
  have := strip_any sec ((a0, b0), (a1, b1), (a2, b2)) w
  rw [h, k] at this; exact this
theorem again_c (key a0 b0 a1 b1 a2 b2 r0 r1 r2 x0 x1 x2 x3 x4 x5 E : Int) (w : World) (h : againR key r0 r1 r2 ((a0, b0), (a1, b1), (a2, b2)) = ((x0, x1), (x2, x3), (x4, x5))) (k : againE key ((a0, b0), (a1, b1), (a2, b2)) = E) :
    Calls Try.prog 17 #[.int .i64 key, sealedV a0 b0 a1 b1 a2 b2, .agg #[.int .i64 r0, .int .i64 r1, .int .i64 r2]] w
      fun e w' => e = .returned (.tuple #[sealedV x0 x1 x2 x3 x4 x5, .int .i64 E]) ∧ Below w.heap.size w w' := by
  have := again_any key r0 r1 r2 ((a0, b0), (a1, b1), (a2, b2)) w
  rw [h, k] at this; exact this
theorem read_c (a0 b0 a1 b1 a2 b2 n0 n1 n2 E : Int) (w : World) (h : readR ((a0, b0), (a1, b1), (a2, b2)) = (n0, n1, n2)) (k : readE ((a0, b0), (a1, b1), (a2, b2)) = E) :
    Calls Try.prog 23 #[sealedV a0 b0 a1 b1 a2 b2] w
      fun e w' => e = .returned (.tuple #[.agg #[.int .i64 n0, .int .i64 n1, .int .i64 n2], .int .i64 E]) ∧ Below w.heap.size w w' := by
  have := read_any ((a0, b0), (a1, b1), (a2, b2)) w
  rw [h, k] at this; exact this
theorem check_c (a0 b0 a1 b1 a2 b2 E : Int) (w : World) (k : chkE a0 b0 a1 b1 a2 b2 = E) :
    Calls Try.prog 24 #[sealedV a0 b0 a1 b1 a2 b2] w fun e w' => e = .returned (.int .i64 E) ∧ Below w.heap.size w w' := by
  rw [← k]; exact check_any _ _ _ _ _ _ w
theorem public_c (s x E : Int) (w : World) (h : pubZ s = x) (k : pubE s = E) :
    Calls Try.prog 11 #[.int .i64 s] w fun e w' => e = .returned (.tuple #[.int .i64 x, .int .i64 E]) ∧ Below w.heap.size w w' := by
  rw [← h, ← k]; exact public_any s w
theorem join_c2 (a b x E : Int) (w : World) (h : joinZ [a, b] = x) (k : joinE [a, b] = E) :
    Calls Try.prog 13 #[.slice (some ⟨w.heap.size, 0, none⟩) 2 2] (w.alloc (.cells #[.int .i64 a, .int .i64 b] 3)) fun e w' => e = .returned (.tuple #[.int .i64 x, .int .i64 E]) ∧ Below w.heap.size w w' := by
  rw [← h, ← k]
  refine (join_any w.heap.size 0 2 2 [a, b] _ rfl (by omega) (fun j hj => ints_new [a, b] w 3 j hj) (by simp)).mono fun e w' h => ⟨h.1, ?_⟩
  exact (bel_alloc1 _ _).trans (h.2.mono (by simp))

set_option maxHeartbeats 400000 in
theorem foldB_nil (w : World) :
    Calls Try.prog 36 #[.slice none 0 0, .bool true, .func (.func 37) #[] #[]] w fun e w' => e = .returned (.bool true) ∧ w = w' := by
  go_enter Try.func36, Try.ntmps36
  go_wp2
  go_loop [1, 11] (fun s i => s = .bool true ∧ i = .int .i64 0) (fun _ _ => 0)
  case atStart => exact ⟨rfl, rfl⟩
  case round =>
    obtain ⟨rfl, rfl⟩ := hrel
    go_wp2
    go_ret
    exact ⟨rfl, rfl⟩
set_option maxHeartbeats 400000 in
theorem foldI_nil (w : World) :
    Calls Try.prog 38 #[.slice none 0 0, .int .i64 1, .func (.func 39) #[] #[]] w fun e w' => e = .returned (.int .i64 1) ∧ w = w' := by
  go_enter Try.func38, Try.ntmps38
  go_wp2
  go_loop [1, 11] (fun s i => s = .int .i64 1 ∧ i = .int .i64 0) (fun _ _ => 0)
  case atStart => exact ⟨rfl, rfl⟩
  case round =>
    obtain ⟨rfl, rfl⟩ := hrel
    go_wp2
    go_ret
    exact ⟨rfl, rfl⟩
set_option maxHeartbeats 400000 in
theorem join_nil (w : World) :
    Calls Try.prog 13 #[.slice none 0 0] w fun e w' => e = .returned (.tuple #[.int .i64 1, .int .i64 0]) ∧ w = w' := by
  go_enter Try.func13, Try.ntmps13
  go_wp2_with fail
  refine (foldB_nil _).mono ?_; rintro e w' ⟨rfl, rfl⟩
  go_wp2_with fail
  refine (foldI_nil _).mono ?_; rintro e w' ⟨rfl, rfl⟩
  go_wp2_with fail
  go_ret2
  exact ⟨rfl, rfl⟩

set_option maxRecDepth 100000 in
set_option maxHeartbeats 4000000 in
theorem sane10_any (w : World) : Calls Try.prog 10 #[] w fun e w' => e = .returned (.bool true) ∧ Below w.heap.size w w' := by
  go_enter Try.func10, Try.ntmps10
  go_wp2_with fail
  refine (public_c 2 16 0 _ x_pub rfl).mono ?_; rintro e w1 ⟨rfl, hb1⟩
  have hS1 := Lib.hid hb1; clear hb1
  go_wp2_with fail
  refine (public_c 0 0 110 _ rfl rfl).mono ?_; rintro e w2 ⟨rfl, hb2⟩
  have hS2 := Lib.hid (bel_trans hS1.out hb2); clear hb2
  go_wp2_with fail
  refine (join_c2 4 16 64 0 _ x_join x_joinE).mono ?_; rintro e w3 ⟨rfl, hb3⟩
  have hS3 := Lib.hid (bel_trans hS2.out hb3); clear hb3
  go_wp2_with fail
  refine (join_nil _).mono ?_; rintro e w' ⟨rfl, rfl⟩
  go_wp2_with fail
  refine (seal_c 16 1 4 9 0 1 2 1 1 4 64 16 2304 0 _ x_seal x_sealE).mono ?_; rintro e w4 ⟨rfl, hb4⟩
  have hS4 := Lib.hid (bel_trans hS3.out hb4); clear hb4
  go_wp2_with fail
  refine (seal_c 4 0 1 1 0 0 0 0 0 0 0 0 0 100 _ x_seal2 x_sealE2).mono ?_; rintro e w5 ⟨rfl, hb5⟩
  have KS5 : Hid (Blk w5 w4.heap.size #[.int .i64 1, .int .i64 1, .int .i64 4, .int .i64 64, .int .i64 16, .int .i64 2304] 34) := Lib.hid ((Blk.new w4 _ _).below hb5 (by simp))
  have hS5 := Lib.hid ((hS4.out.alloc hS4.out.size (.cells #[.int .i64 1, .int .i64 1, .int .i64 4, .int .i64 64, .int .i64 16, .int .i64 2304] 34)).trans (hb5.mono (by have := hS4.out.size; simp; omega))); clear hb5
  obtain ⟨a0, a1, a2, a3, a4, a5, _⟩ := blk6_facts KS5.out
  have l5 : w4.heap.size < w5.heap.size := KS5.out.lt
  go_wp2_with fail
  refine (strip_c 2 1 1 4 64 16 2304 1 1 4 4 16 9 0 _ x_strip x_stripE).mono ?_; rintro e w6 ⟨rfl, hb6⟩
  have KS6 : Hid (Blk w6 w4.heap.size #[.int .i64 1, .int .i64 1, .int .i64 4, .int .i64 64, .int .i64 16, .int .i64 2304] 34) := Lib.hid ((KS5.out.alloc _).below hb6 (by simp; omega))
  have hS6 := Lib.hid ((hS5.out.alloc hS5.out.size (.cells #[.int .i64 0, .int .i64 0, .int .i64 0, .int .i64 0, .int .i64 0, .int .i64 0] 34)).trans (hb6.mono (by have := hS5.out.size; simp; omega))); clear hb6 a0 a1 a2 a3 a4 a5
  have l6 : w4.heap.size < w6.heap.size := KS6.out.lt
  go_wp2_with fail
  refine (read_c 1 1 4 4 16 9 1 4 9 0 _ x_read x_readE).mono ?_; rintro e w7 ⟨rfl, hb7⟩
  have KX7 : Hid (Blk w7 w6.heap.size #[.int .i64 1, .int .i64 1, .int .i64 4, .int .i64 4, .int .i64 16, .int .i64 9] 34) := Lib.hid ((Blk.new w6 _ _).below hb7 (by simp))
  have KS7 : Hid (Blk w7 w4.heap.size #[.int .i64 1, .int .i64 1, .int .i64 4, .int .i64 64, .int .i64 16, .int .i64 2304] 34) := Lib.hid ((KS6.out.alloc _).below hb7 (by simp; omega))
  have hS7 := Lib.hid ((hS6.out.alloc hS6.out.size (.cells #[.int .i64 1, .int .i64 1, .int .i64 4, .int .i64 4, .int .i64 16, .int .i64 9] 34)).trans (hb7.mono (by have := hS6.out.size; simp; omega))); clear hb7
  obtain ⟨a0, a1, a2, a3, a4, a5, _⟩ := blk6_facts KS7.out
  have l7 : w4.heap.size < w7.heap.size := KS7.out.lt
  have l7' : w6.heap.size < w7.heap.size := KX7.out.lt
  go_wp2_with fail
  refine (again_c 16 1 1 4 64 16 2304 1 0 (-1) 4 16 4 64 4 144 0 _ x_again x_againE).mono ?_; rintro e w8 ⟨rfl, hb8⟩
  have KS8 : Hid (Blk w8 w4.heap.size #[.int .i64 1, .int .i64 1, .int .i64 4, .int .i64 64, .int .i64 16, .int .i64 2304] 34) := Lib.hid ((KS7.out.alloc _).below hb8 (by simp; omega))
  have KX8 : Hid (Blk w8 w6.heap.size #[.int .i64 1, .int .i64 1, .int .i64 4, .int .i64 4, .int .i64 16, .int .i64 9] 34) := Lib.hid ((KX7.out.alloc _).below hb8 (by simp; omega))
  have KW8 : Hid (Blk w8 w7.heap.size #[.int .i64 1, .int .i64 4, .int .i64 9] 30) := Lib.hid ((Blk.new w7 _ _).below hb8 (by simp))
  have hS8 := Lib.hid ((hS7.out.alloc hS7.out.size (.cells #[.int .i64 1, .int .i64 4, .int .i64 9] 30)).trans (hb8.mono (by have := hS7.out.size; simp; omega))); clear hb8 a0 a1 a2 a3 a4 a5
  obtain ⟨a0, a1, a2, a3, a4, a5, _⟩ := blk6_facts KS8.out
  obtain ⟨b0, b1, b2, b3, b4, b5, _⟩ := blk6_facts KX8.out
  obtain ⟨c0, c1, c2⟩ := blk3_facts KW8.out
  have l8 : w4.heap.size < w8.heap.size := KS8.out.lt
  have l8' : w6.heap.size < w8.heap.size := KX8.out.lt
  have l8'' : w7.heap.size < w8.heap.size := KW8.out.lt
  go_wp2_with fail
  refine (check_c 0 0 0 0 0 0 100 _ x_chk0).mono ?_; rintro e w9 ⟨rfl, hb9⟩
  have KS9 : Hid (Blk w9 w4.heap.size #[.int .i64 1, .int .i64 1, .int .i64 4, .int .i64 64, .int .i64 16, .int .i64 2304] 34) := Lib.hid ((KS8.out.alloc _).below hb9 (by simp; omega))
  have hS9 := Lib.hid ((hS8.out.alloc hS8.out.size (.cells #[.int .i64 4, .int .i64 16, .int .i64 4, .int .i64 64, .int .i64 4, .int .i64 144] 34)).trans (hb9.mono (by have := hS8.out.size; simp; omega))); clear hb9 a0 a1 a2 a3 a4 a5 b0 b1 b2 b3 b4 b5 c0 c1 c2
  obtain ⟨a0, a1, a2, a3, a4, a5, _⟩ := blk6_facts KS9.out
  have l9 : w4.heap.size < w9.heap.size := KS9.out.lt
  go_wp2_with fail
  refine (check_c 1 1 4 64 16 2304 0 _ x_chk).mono ?_; rintro e w10 ⟨rfl, hb10⟩
  have hS10 := Lib.hid (bel_trans hS9.out hb10); clear hb10
  go_wp2_with fail
  go_ret
  exact ⟨rfl, hS10.out⟩
end Go.Proofs.Ytbmeljkdemdloaa
