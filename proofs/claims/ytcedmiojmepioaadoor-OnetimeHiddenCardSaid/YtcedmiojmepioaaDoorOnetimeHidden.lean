/- To.B alone does not tell the alias. No condition. -/
import Derived.Test.YtcedmiojmepioaaDoorOntSan
import Derived.Test.YtcedmiojmepioaaDoorOntRd0
import Derived.Test.YtcedmiojmepioaaDoorOntOpn
import Derived.Test.YtcedmiojmepioaaDoorDigCard2
import Derived.Test.YtcedmiojmepioaaDoorQInvD
namespace Go.Proofs.YtcedmiojmepioaaDoor
open Go.ChangeShapes Go.WideShapes Go.ChangeAt Go.RowKit Go.WideElems Go.Shelf
set_option linter.unusedVariables false
set_option linter.unusedSimpArgs false

theorem rPow_c (a n x : Int) (w : World) (h : Hid (powZ a n = x)) : Calls Tryd.prog 15 #[.int .i64 a, .int .i64 n] w fun e w' => e = .returned (.tuple #[.int .i64 x, .int .i64 (powE a)]) ∧ w = w' := by
  rw [← h.out]; exact rPow_any a n w
set_option maxHeartbeats 1000000 in
theorem rnum_is (x n : Int) (w : World) (hx : Hid (elB x = true)) (hn : Hid (numZ x = n)) : Calls Tryd.prog 16 #[.int .i64 x] w fun e w' => e = .returned (.tuple #[.int .i64 n, .int .i64 0]) ∧ w = w' := by
  have hb := elB_iff hx.out
  by_cases h : x ≤ 1073741789
  · have e1 := Lib.hid (show n = x by rw [← hn.out]; unfold numZ; rw [if_pos hx.out, if_pos h])
    go_enter Tryd.func16, Tryd.ntmps16
    go_wp2_with (go_at_call 29; refine (rvalid_any _ _).mono ?_; rintro e w' ⟨rfl, rfl⟩; rw [hx.out])
    go_ret2
    exact ⟨ret_two e1.out.symm rfl, rfl⟩
  · have e1 := Lib.hid (show n = 2147483579 - x by rw [← hn.out]; unfold numZ; rw [if_pos hx.out, if_neg h])
    go_enter Tryd.func16, Tryd.ntmps16
    go_wp2_with (go_at_call 29; refine (rvalid_any _ _).mono ?_; rintro e w' ⟨rfl, rfl⟩; rw [hx.out])
    go_ret2
    exact ⟨ret_two e1.out.symm rfl, rfl⟩
structure Pw4 (n x : Int) : Prop where
  eq : powZ 4 n = x
structure NumOf (x n : Int) : Prop where
  el : elB x = true
  eq : numZ x = n
structure IsInv (s iv : Int) : Prop where
  eq : (powQ s.toNat (1073741787 : Int).toNat : Int) = iv
theorem powZ_1 (n : Int) : powZ 1 n = 1 := by
  have h := powZ_mul elB_4 0 n
  rw [powZ_zero elB_4, Int.zero_mul, powZ_zero elB_4] at h
  exact h
/-- 4 has the order Q -/
theorem pow4_inj {a b : Int} (h : powZ 4 a = powZ 4 b) : a % 1073741789 = b % 1073741789 := by
  have h1 : powZ 4 (a + -b) = 1 := by
    rw [← powZ_add elB_4, h, powZ_add elB_4, Int.add_right_neg, powZ_zero elB_4]
  by_cases hd : (a + -b) % 1073741789 = 0
  · omega
  · have h2 := inv_ok hd
    have h3 : powZ (powZ 4 (a + -b)) (invZ (a + -b)) = 4 := by
      rw [powZ_mul elB_4, powZ_congr 4 (show ((a + -b) * invZ (a + -b)) % 1073741789 = 1 % 1073741789 by rw [Int.mul_comm, h2]; rfl), powZ_one elB_4]
    rw [h1, powZ_1] at h3
    exact absurd h3 (by decide)
set_option maxRecDepth 100000 in
set_option maxHeartbeats 8000000 in
theorem hidden_e0 (line sec x y r : Int) (w : World) (hk : Hid (KeysAt w))  (h : sec < 1) :
    Calls Tryd.prog 4 #[.int .i64 line, .int .i64 sec, .int .i64 x, .int .i64 y, .int .i64 r] w fun e w' => e = .returned (.bool true) ∧ Below w.heap.size w w' := by
  have t0 : sec < 1 := h
  go_enter Tryd.func4, Tryd.ntmps4
  go_wp2_with (go_at_call 5; refine (sane16_any _ hk).mono ?_; rintro e wa ⟨rfl, hb⟩; have B1 := Lib.hid hb; clear hb)
  go_ret
  exact ⟨rfl, B1.out⟩
set_option maxRecDepth 100000 in
set_option maxHeartbeats 8000000 in
theorem hidden_e1 (line sec x y r : Int) (w : World) (hk : Hid (KeysAt w)) (g0 : ¬ sec < 1) (h : sec ≥ 1073741789) :
    Calls Tryd.prog 4 #[.int .i64 line, .int .i64 sec, .int .i64 x, .int .i64 y, .int .i64 r] w fun e w' => e = .returned (.bool true) ∧ Below w.heap.size w w' := by
  have t0 : ¬ sec < 1 := g0
  have t1 : sec ≥ 1073741789 := h
  have s1 : ¬ sec < 1073741789 := by omega
  go_enter Tryd.func4, Tryd.ntmps4
  go_wp2_with (go_at_call 5; refine (sane16_any _ hk).mono ?_; rintro e wa ⟨rfl, hb⟩; have B1 := Lib.hid hb; clear hb)
  go_ret
  exact ⟨rfl, B1.out⟩
set_option maxRecDepth 100000 in
set_option maxHeartbeats 8000000 in
theorem hidden_e2 (line sec x y r : Int) (w : World) (hk : Hid (KeysAt w)) (g0 : ¬ sec < 1) (g1 : ¬ sec ≥ 1073741789) (h : line < 0) :
    Calls Tryd.prog 4 #[.int .i64 line, .int .i64 sec, .int .i64 x, .int .i64 y, .int .i64 r] w fun e w' => e = .returned (.bool true) ∧ Below w.heap.size w w' := by
  have t0 : ¬ sec < 1 := g0
  have t1 : ¬ sec ≥ 1073741789 := g1
  have s1 : sec < 1073741789 := by omega
  have t2 : line < 0 := h
  go_enter Tryd.func4, Tryd.ntmps4
  go_wp2_with (go_at_call 5; refine (sane16_any _ hk).mono ?_; rintro e wa ⟨rfl, hb⟩; have B1 := Lib.hid hb; clear hb)
  go_ret
  exact ⟨rfl, B1.out⟩
set_option maxRecDepth 100000 in
set_option maxHeartbeats 8000000 in
theorem hidden_e3 (line sec x y r : Int) (w : World) (hk : Hid (KeysAt w)) (g0 : ¬ sec < 1) (g1 : ¬ sec ≥ 1073741789) (g2 : ¬ line < 0) (h : line ≥ 64) :
    Calls Tryd.prog 4 #[.int .i64 line, .int .i64 sec, .int .i64 x, .int .i64 y, .int .i64 r] w fun e w' => e = .returned (.bool true) ∧ Below w.heap.size w w' := by
  have t0 : ¬ sec < 1 := g0
  have t1 : ¬ sec ≥ 1073741789 := g1
  have s1 : sec < 1073741789 := by omega
  have t2 : ¬ line < 0 := g2
  have t3 : line ≥ 64 := h
  have s3 : ¬ line < 64 := by omega
  go_enter Tryd.func4, Tryd.ntmps4
  go_wp2_with (go_at_call 5; refine (sane16_any _ hk).mono ?_; rintro e wa ⟨rfl, hb⟩; have B1 := Lib.hid hb; clear hb)
  go_ret
  exact ⟨rfl, B1.out⟩
set_option maxRecDepth 100000 in
set_option maxHeartbeats 8000000 in
theorem hidden_e4 (line sec x y r : Int) (w : World) (hk : Hid (KeysAt w)) (g0 : ¬ sec < 1) (g1 : ¬ sec ≥ 1073741789) (g2 : ¬ line < 0) (g3 : ¬ line ≥ 64) (h : r < 0) :
    Calls Tryd.prog 4 #[.int .i64 line, .int .i64 sec, .int .i64 x, .int .i64 y, .int .i64 r] w fun e w' => e = .returned (.bool true) ∧ Below w.heap.size w w' := by
  have t0 : ¬ sec < 1 := g0
  have t1 : ¬ sec ≥ 1073741789 := g1
  have s1 : sec < 1073741789 := by omega
  have t2 : ¬ line < 0 := g2
  have t3 : ¬ line ≥ 64 := g3
  have s3 : line < 64 := by omega
  have t4 : r < 0 := h
  go_enter Tryd.func4, Tryd.ntmps4
  go_wp2_with (go_at_call 5; refine (sane16_any _ hk).mono ?_; rintro e wa ⟨rfl, hb⟩; have B1 := Lib.hid hb; clear hb)
  go_ret
  exact ⟨rfl, B1.out⟩
set_option maxRecDepth 100000 in
set_option maxHeartbeats 8000000 in
theorem hidden_e5 (line sec x y r : Int) (w : World) (hk : Hid (KeysAt w)) (g0 : ¬ sec < 1) (g1 : ¬ sec ≥ 1073741789) (g2 : ¬ line < 0) (g3 : ¬ line ≥ 64) (g4 : ¬ r < 0) (h : r ≥ 1073741789) :
    Calls Tryd.prog 4 #[.int .i64 line, .int .i64 sec, .int .i64 x, .int .i64 y, .int .i64 r] w fun e w' => e = .returned (.bool true) ∧ Below w.heap.size w w' := by
  have t0 : ¬ sec < 1 := g0
  have t1 : ¬ sec ≥ 1073741789 := g1
  have s1 : sec < 1073741789 := by omega
  have t2 : ¬ line < 0 := g2
  have t3 : ¬ line ≥ 64 := g3
  have s3 : line < 64 := by omega
  have t4 : ¬ r < 0 := g4
  have t5 : r ≥ 1073741789 := h
  have s5 : ¬ r < 1073741789 := by omega
  go_enter Tryd.func4, Tryd.ntmps4
  go_wp2_with (go_at_call 5; refine (sane16_any _ hk).mono ?_; rintro e wa ⟨rfl, hb⟩; have B1 := Lib.hid hb; clear hb)
  go_ret
  exact ⟨rfl, B1.out⟩
set_option maxRecDepth 100000 in
set_option maxHeartbeats 8000000 in
theorem hidden_e6 (line sec x y r : Int) (w : World) (hk : Hid (KeysAt w)) (g0 : ¬ sec < 1) (g1 : ¬ sec ≥ 1073741789) (g2 : ¬ line < 0) (g3 : ¬ line ≥ 64) (g4 : ¬ r < 0) (g5 : ¬ r ≥ 1073741789) (h : x < 0) :
    Calls Tryd.prog 4 #[.int .i64 line, .int .i64 sec, .int .i64 x, .int .i64 y, .int .i64 r] w fun e w' => e = .returned (.bool true) ∧ Below w.heap.size w w' := by
  have t0 : ¬ sec < 1 := g0
  have t1 : ¬ sec ≥ 1073741789 := g1
  have s1 : sec < 1073741789 := by omega
  have t2 : ¬ line < 0 := g2
  have t3 : ¬ line ≥ 64 := g3
  have s3 : line < 64 := by omega
  have t4 : ¬ r < 0 := g4
  have t5 : ¬ r ≥ 1073741789 := g5
  have s5 : r < 1073741789 := by omega
  have t6 : x < 0 := h
  go_enter Tryd.func4, Tryd.ntmps4
  go_wp2_with (go_at_call 5; refine (sane16_any _ hk).mono ?_; rintro e wa ⟨rfl, hb⟩; have B1 := Lib.hid hb; clear hb)
  go_ret
  exact ⟨rfl, B1.out⟩
set_option maxRecDepth 100000 in
set_option maxHeartbeats 8000000 in
theorem hidden_e7 (line sec x y r : Int) (w : World) (hk : Hid (KeysAt w)) (g0 : ¬ sec < 1) (g1 : ¬ sec ≥ 1073741789) (g2 : ¬ line < 0) (g3 : ¬ line ≥ 64) (g4 : ¬ r < 0) (g5 : ¬ r ≥ 1073741789) (g6 : ¬ x < 0) (h : x ≥ 1073741789) :
    Calls Tryd.prog 4 #[.int .i64 line, .int .i64 sec, .int .i64 x, .int .i64 y, .int .i64 r] w fun e w' => e = .returned (.bool true) ∧ Below w.heap.size w w' := by
  have t0 : ¬ sec < 1 := g0
  have t1 : ¬ sec ≥ 1073741789 := g1
  have s1 : sec < 1073741789 := by omega
  have t2 : ¬ line < 0 := g2
  have t3 : ¬ line ≥ 64 := g3
  have s3 : line < 64 := by omega
  have t4 : ¬ r < 0 := g4
  have t5 : ¬ r ≥ 1073741789 := g5
  have s5 : r < 1073741789 := by omega
  have t6 : ¬ x < 0 := g6
  have t7 : x ≥ 1073741789 := h
  have s7 : ¬ x < 1073741789 := by omega
  go_enter Tryd.func4, Tryd.ntmps4
  go_wp2_with (go_at_call 5; refine (sane16_any _ hk).mono ?_; rintro e wa ⟨rfl, hb⟩; have B1 := Lib.hid hb; clear hb)
  go_ret
  exact ⟨rfl, B1.out⟩
set_option maxRecDepth 100000 in
set_option maxHeartbeats 8000000 in
theorem hidden_e8 (line sec x y r : Int) (w : World) (hk : Hid (KeysAt w)) (g0 : ¬ sec < 1) (g1 : ¬ sec ≥ 1073741789) (g2 : ¬ line < 0) (g3 : ¬ line ≥ 64) (g4 : ¬ r < 0) (g5 : ¬ r ≥ 1073741789) (g6 : ¬ x < 0) (g7 : ¬ x ≥ 1073741789) (h : y < 0) :
    Calls Tryd.prog 4 #[.int .i64 line, .int .i64 sec, .int .i64 x, .int .i64 y, .int .i64 r] w fun e w' => e = .returned (.bool true) ∧ Below w.heap.size w w' := by
  have t0 : ¬ sec < 1 := g0
  have t1 : ¬ sec ≥ 1073741789 := g1
  have s1 : sec < 1073741789 := by omega
  have t2 : ¬ line < 0 := g2
  have t3 : ¬ line ≥ 64 := g3
  have s3 : line < 64 := by omega
  have t4 : ¬ r < 0 := g4
  have t5 : ¬ r ≥ 1073741789 := g5
  have s5 : r < 1073741789 := by omega
  have t6 : ¬ x < 0 := g6
  have t7 : ¬ x ≥ 1073741789 := g7
  have s7 : x < 1073741789 := by omega
  have t8 : y < 0 := h
  go_enter Tryd.func4, Tryd.ntmps4
  go_wp2_with (go_at_call 5; refine (sane16_any _ hk).mono ?_; rintro e wa ⟨rfl, hb⟩; have B1 := Lib.hid hb; clear hb)
  go_ret
  exact ⟨rfl, B1.out⟩
set_option maxRecDepth 100000 in
set_option maxHeartbeats 8000000 in
theorem hidden_e9 (line sec x y r : Int) (w : World) (hk : Hid (KeysAt w)) (g0 : ¬ sec < 1) (g1 : ¬ sec ≥ 1073741789) (g2 : ¬ line < 0) (g3 : ¬ line ≥ 64) (g4 : ¬ r < 0) (g5 : ¬ r ≥ 1073741789) (g6 : ¬ x < 0) (g7 : ¬ x ≥ 1073741789) (g8 : ¬ y < 0) (h : y ≥ 1073741789) :
    Calls Tryd.prog 4 #[.int .i64 line, .int .i64 sec, .int .i64 x, .int .i64 y, .int .i64 r] w fun e w' => e = .returned (.bool true) ∧ Below w.heap.size w w' := by
  have t0 : ¬ sec < 1 := g0
  have t1 : ¬ sec ≥ 1073741789 := g1
  have s1 : sec < 1073741789 := by omega
  have t2 : ¬ line < 0 := g2
  have t3 : ¬ line ≥ 64 := g3
  have s3 : line < 64 := by omega
  have t4 : ¬ r < 0 := g4
  have t5 : ¬ r ≥ 1073741789 := g5
  have s5 : r < 1073741789 := by omega
  have t6 : ¬ x < 0 := g6
  have t7 : ¬ x ≥ 1073741789 := g7
  have s7 : x < 1073741789 := by omega
  have t8 : ¬ y < 0 := g8
  have t9 : y ≥ 1073741789 := h
  have s9 : ¬ y < 1073741789 := by omega
  go_enter Tryd.func4, Tryd.ntmps4
  go_wp2_with (go_at_call 5; refine (sane16_any _ hk).mono ?_; rintro e wa ⟨rfl, hb⟩; have B1 := Lib.hid hb; clear hb)
  go_ret
  exact ⟨rfl, B1.out⟩
set_option maxRecDepth 100000 in
set_option maxHeartbeats 8000000 in
theorem hidden_same (line sec x y r : Int) (w : World) (hk : Hid (KeysAt w)) (g0 : ¬ sec < 1) (g1 : ¬ sec ≥ 1073741789) (g2 : ¬ line < 0) (g3 : ¬ line ≥ 64) (g4 : ¬ r < 0) (g5 : ¬ r ≥ 1073741789) (g6 : ¬ x < 0) (g7 : ¬ x ≥ 1073741789) (g8 : ¬ y < 0) (g9 : ¬ y ≥ 1073741789) (key gu gv na nb iv : Int) (hkey : Pw4 sec key) (hgu : Pw4 x gu) (hgv : Pw4 y gv) (hna : NumOf gu na) (hnb : NumOf gv nb) (hinv : IsInv sec iv) (d1 d2 q : Int) (a1 : Hid (0 ≤ x - y + 1073741789)) (a2 : Hid ((x - y + 1073741789) % 1073741789 = d1)) (a3 : Hid (0 ≤ d1 * iv)) (a4 : Hid (d1 * iv ≤ 4611686018427387904)) (a5 : Hid ((d1 * iv) % 1073741789 = d2)) (a6 : Hid (0 ≤ d2)) (a6b : Hid (d2 < 1073741789)) (a7 : Hid ((r + d2) % 1073741789 = q)) (A1 Bq : Int) (ds1 : List Int) (hl1 : Hid (ds1.length = 32)) (exy : (x == y) = true) (EQ : ∀ w, (Op.equalIn 10000 35 (.agg (rtv line key A1 Bq ds1).toArray) (.agg (rtv line key A1 Bq ds1).toArray)).run Tryd.prog w = .ok true w) (HM1 : Hid (∀ g : World, Below w.heap.size w g → Calls Tryd.prog 8 #[.int .i64 line, .int .i64 key, .int .i64 na, .int .i64 r] g fun e w' => e = .returned (.tuple #[.agg (rtv line key A1 Bq ds1).toArray, .int .i64 0]) ∧ Below g.heap.size g w')) (HM2 : Hid (∀ g : World, Below w.heap.size w g → Calls Tryd.prog 8 #[.int .i64 line, .int .i64 key, .int .i64 nb, .int .i64 q] g fun e w' => e = .returned (.tuple #[.agg (rtv line key A1 Bq ds1).toArray, .int .i64 0]) ∧ Below g.heap.size g w')) :
    Calls Tryd.prog 4 #[.int .i64 line, .int .i64 sec, .int .i64 x, .int .i64 y, .int .i64 r] w fun e w' => e = .returned (.bool true) ∧ Below w.heap.size w w' := by
  have t0 : ¬ sec < 1 := g0
  have t1 : ¬ sec ≥ 1073741789 := g1
  have s1 : sec < 1073741789 := by omega
  have t2 : ¬ line < 0 := g2
  have t3 : ¬ line ≥ 64 := g3
  have s3 : line < 64 := by omega
  have t4 : ¬ r < 0 := g4
  have t5 : ¬ r ≥ 1073741789 := g5
  have s5 : r < 1073741789 := by omega
  have t6 : ¬ x < 0 := g6
  have t7 : ¬ x ≥ 1073741789 := g7
  have s7 : x < 1073741789 := by omega
  have t8 : ¬ y < 0 := g8
  have t9 : ¬ y ≥ 1073741789 := g9
  have s9 : y < 1073741789 := by omega
  have HINV := hinv
  go_enter Tryd.func4, Tryd.ntmps4
  go_upto_region 10 with (first
    | (go_at_call 5; refine (sane16_any _ hk).mono ?_; rintro e wa ⟨rfl, hb⟩; have B1 := Lib.hid hb; clear hb)
    | (go_at_call 15; with_reducible refine (rPow_c 4 sec key _ (Lib.hid hkey.eq)).mono ?_; rintro e w' ⟨rfl, rfl⟩)
    | (go_at_call 15; with_reducible refine (rPow_c 4 x gu _ (Lib.hid hgu.eq)).mono ?_; rintro e w' ⟨rfl, rfl⟩)
    | (go_at_call 15; with_reducible refine (rPow_c 4 y gv _ (Lib.hid hgv.eq)).mono ?_; rintro e w' ⟨rfl, rfl⟩)
    | (go_at_call 16; with_reducible refine (rnum_is gu na _ (Lib.hid hna.el) (Lib.hid hna.eq)).mono ?_; rintro e w' ⟨rfl, rfl⟩)
    | (go_at_call 16; with_reducible refine (rnum_is gv nb _ (Lib.hid hnb.el) (Lib.hid hnb.eq)).mono ?_; rintro e w' ⟨rfl, rfl⟩))
  go_wp2_with fail
  go_loopw [21, 22, 23] (fun c rr s wr => ∃ c' r' s' : Int, c = .int .i64 c' ∧ rr = .int .i64 r' ∧ s = .int .i64 s' ∧ r' ≤ 1073741787 ∧ Hid (QwState sec.toNat (1073741787 : Int).toNat c' s' r') ∧ wr = wa) (fun _ rr _ _ => (intOf rr).toNat)
  case atStart => exact ⟨_, _, _, rfl, rfl, rfl, by omega, Lib.hid (qw_start (a := sec) (n := 1073741787) (by omega) (by omega) (by omega)), rfl⟩
  case round =>
    obtain ⟨cc, rr, ss, rfl, rfl, rfl, hr1, hst, rfl⟩ := hrel
    obtain ⟨c0, c1, s0', s1', r0, _⟩ := hst.out
    by_cases hr : 0 < rr
    · obtain ⟨m0, m1⟩ := mulQ_bound s0' s1' s0' s1'
      obtain ⟨m2, m3⟩ := mulQ_bound c0 c1 s0' s1'
      by_cases e : rr % 2 = 1
      · have hn := Lib.hid (qw_odd hst.out hr e)
        have eB : (rr % 2 == 1) = true := by simp [e]
        clear e
        go_wp2_with fail
        go_roundw
        case rel => exact ⟨_, _, _, rfl, rfl, rfl, by omega, hn, by first | rfl | trivial⟩
        case measure => simp [intOf]; omega
      · have hn := Lib.hid (qw_even hst.out hr e)
        have eB : (rr % 2 == 1) = false := by simp [e]
        clear e
        go_wp2_with fail
        go_roundw
        case rel => exact ⟨_, _, _, rfl, rfl, rfl, by omega, hn, by first | rfl | trivial⟩
        case measure => simp [intOf]; omega
    · obtain rfl : rr = 0 := by omega
      obtain rfl : cc = iv := by rw [← HINV.eq]; exact qw_end hst.out
      clear hst c0 c1 s0' s1' r0 hr hr1
      replace a1 := a1.out
      replace a2 := a2.out
      replace a3 := a3.out
      replace a4 := a4.out
      replace a5 := a5.out
      replace a6 := a6.out
      replace a6b := a6b.out
      replace a7 := a7.out
      go_upto_region 19 with (first
        | (go_at_call 8; with_reducible refine (HM1.out _ B1.out).mono ?_; rintro e wb ⟨rfl, hb⟩; have B2 := Lib.hid (bel_trans B1.out hb); clear hb)
        | (refine list_storeR rfl (.tmp 25) (.tmp 127) rfl wb.heap.size rfl line key A1 Bq ds1 rfl hl1.out 0 0 0 0 (List.replicate 32 0) (RBlk.new wb) ?_))
      intro wb' qb kb
      have Kb := Lib.hid ((bel_alloc1 wb _).trans (kb.below (Nat.le_refl _)))
      have X3 := Lib.hid qb
      have B3 := Lib.hid (bel_trans B2.out Kb.out)
      clear qb kb Kb
      generalize wb.heap.size = xb at X3 ⊢
      go_upto_region 20 with (first
        | (go_at_call 8; with_reducible refine (HM2.out _ B3.out).mono ?_; rintro e wc ⟨rfl, hb⟩; have B4 := Lib.hid (bel_trans B3.out hb); have X4 := Lib.hid (X3.out.bel hb); clear hb)
        | (refine list_storeR rfl (.tmp 27) (.tmp 135) rfl wc.heap.size rfl line key A1 Bq ds1 rfl hl1.out 0 0 0 0 (List.replicate 32 0) (RBlk.new wc) ?_))
      intro wc' qc kc
      have Kc := Lib.hid ((bel_alloc1 wc _).trans (kc.below (Nat.le_refl _)))
      have Y5 := Lib.hid qc
      have B5 := Lib.hid (bel_trans B4.out Kc.out)
      have X5 := Lib.hid (X4.out.bel Kc.out)
      clear qc kc Kc
      generalize wc.heap.size = yb at Y5 ⊢
      obtain ⟨x0, x1, x2, x3⟩ := X5.out.ints
      obtain ⟨y0, y1, y2, y3⟩ := Y5.out.ints
      go_wp2_with (first
        | (refine list_loadR (by rfl) (.tmp 25) rfl xb rfl line key A1 Bq ds1 X5.out ?_)
        | (refine list_loadR (by rfl) (.tmp 27) rfl yb rfl line key A1 Bq ds1 Y5.out ?_))
      go_ret
      exact ⟨rfl, B5.out⟩
set_option maxRecDepth 100000 in
set_option maxHeartbeats 8000000 in
theorem hidden_diff (line sec x y r : Int) (w : World) (hk : Hid (KeysAt w)) (g0 : ¬ sec < 1) (g1 : ¬ sec ≥ 1073741789) (g2 : ¬ line < 0) (g3 : ¬ line ≥ 64) (g4 : ¬ r < 0) (g5 : ¬ r ≥ 1073741789) (g6 : ¬ x < 0) (g7 : ¬ x ≥ 1073741789) (g8 : ¬ y < 0) (g9 : ¬ y ≥ 1073741789) (key gu gv na nb iv : Int) (hkey : Pw4 sec key) (hgu : Pw4 x gu) (hgv : Pw4 y gv) (hna : NumOf gu na) (hnb : NumOf gv nb) (hinv : IsInv sec iv) (d1 d2 q : Int) (a1 : Hid (0 ≤ x - y + 1073741789)) (a2 : Hid ((x - y + 1073741789) % 1073741789 = d1)) (a3 : Hid (0 ≤ d1 * iv)) (a4 : Hid (d1 * iv ≤ 4611686018427387904)) (a5 : Hid ((d1 * iv) % 1073741789 = d2)) (a6 : Hid (0 ≤ d2)) (a6b : Hid (d2 < 1073741789)) (a7 : Hid ((r + d2) % 1073741789 = q)) (A1 Bq : Int) (ds1 : List Int) (hl1 : Hid (ds1.length = 32)) (A2 : Int) (ds2 : List Int) (hl2 : Hid (ds2.length = 32)) (exy : (x == y) = false) (eA : (A1 == A2) = false) (EQ : ∀ w, (Op.equalIn 10000 35 (.agg (rtv line key A1 Bq ds1).toArray) (.agg (rtv line key A2 Bq ds2).toArray)).run Tryd.prog w = .ok false w) (HM1 : Hid (∀ g : World, Below w.heap.size w g → Calls Tryd.prog 8 #[.int .i64 line, .int .i64 key, .int .i64 na, .int .i64 r] g fun e w' => e = .returned (.tuple #[.agg (rtv line key A1 Bq ds1).toArray, .int .i64 0]) ∧ Below g.heap.size g w')) (HM2 : Hid (∀ g : World, Below w.heap.size w g → Calls Tryd.prog 8 #[.int .i64 line, .int .i64 key, .int .i64 nb, .int .i64 q] g fun e w' => e = .returned (.tuple #[.agg (rtv line key A2 Bq ds2).toArray, .int .i64 0]) ∧ Below g.heap.size g w')) :
    Calls Tryd.prog 4 #[.int .i64 line, .int .i64 sec, .int .i64 x, .int .i64 y, .int .i64 r] w fun e w' => e = .returned (.bool true) ∧ Below w.heap.size w w' := by
  have t0 : ¬ sec < 1 := g0
  have t1 : ¬ sec ≥ 1073741789 := g1
  have s1 : sec < 1073741789 := by omega
  have t2 : ¬ line < 0 := g2
  have t3 : ¬ line ≥ 64 := g3
  have s3 : line < 64 := by omega
  have t4 : ¬ r < 0 := g4
  have t5 : ¬ r ≥ 1073741789 := g5
  have s5 : r < 1073741789 := by omega
  have t6 : ¬ x < 0 := g6
  have t7 : ¬ x ≥ 1073741789 := g7
  have s7 : x < 1073741789 := by omega
  have t8 : ¬ y < 0 := g8
  have t9 : ¬ y ≥ 1073741789 := g9
  have s9 : y < 1073741789 := by omega
  have HINV := hinv
  go_enter Tryd.func4, Tryd.ntmps4
  go_upto_region 10 with (first
    | (go_at_call 5; refine (sane16_any _ hk).mono ?_; rintro e wa ⟨rfl, hb⟩; have B1 := Lib.hid hb; clear hb)
    | (go_at_call 15; with_reducible refine (rPow_c 4 sec key _ (Lib.hid hkey.eq)).mono ?_; rintro e w' ⟨rfl, rfl⟩)
    | (go_at_call 15; with_reducible refine (rPow_c 4 x gu _ (Lib.hid hgu.eq)).mono ?_; rintro e w' ⟨rfl, rfl⟩)
    | (go_at_call 15; with_reducible refine (rPow_c 4 y gv _ (Lib.hid hgv.eq)).mono ?_; rintro e w' ⟨rfl, rfl⟩)
    | (go_at_call 16; with_reducible refine (rnum_is gu na _ (Lib.hid hna.el) (Lib.hid hna.eq)).mono ?_; rintro e w' ⟨rfl, rfl⟩)
    | (go_at_call 16; with_reducible refine (rnum_is gv nb _ (Lib.hid hnb.el) (Lib.hid hnb.eq)).mono ?_; rintro e w' ⟨rfl, rfl⟩))
  go_wp2_with fail
  go_loopw [21, 22, 23] (fun c rr s wr => ∃ c' r' s' : Int, c = .int .i64 c' ∧ rr = .int .i64 r' ∧ s = .int .i64 s' ∧ r' ≤ 1073741787 ∧ Hid (QwState sec.toNat (1073741787 : Int).toNat c' s' r') ∧ wr = wa) (fun _ rr _ _ => (intOf rr).toNat)
  case atStart => exact ⟨_, _, _, rfl, rfl, rfl, by omega, Lib.hid (qw_start (a := sec) (n := 1073741787) (by omega) (by omega) (by omega)), rfl⟩
  case round =>
    obtain ⟨cc, rr, ss, rfl, rfl, rfl, hr1, hst, rfl⟩ := hrel
    obtain ⟨c0, c1, s0', s1', r0, _⟩ := hst.out
    by_cases hr : 0 < rr
    · obtain ⟨m0, m1⟩ := mulQ_bound s0' s1' s0' s1'
      obtain ⟨m2, m3⟩ := mulQ_bound c0 c1 s0' s1'
      by_cases e : rr % 2 = 1
      · have hn := Lib.hid (qw_odd hst.out hr e)
        have eB : (rr % 2 == 1) = true := by simp [e]
        clear e
        go_wp2_with fail
        go_roundw
        case rel => exact ⟨_, _, _, rfl, rfl, rfl, by omega, hn, by first | rfl | trivial⟩
        case measure => simp [intOf]; omega
      · have hn := Lib.hid (qw_even hst.out hr e)
        have eB : (rr % 2 == 1) = false := by simp [e]
        clear e
        go_wp2_with fail
        go_roundw
        case rel => exact ⟨_, _, _, rfl, rfl, rfl, by omega, hn, by first | rfl | trivial⟩
        case measure => simp [intOf]; omega
    · obtain rfl : rr = 0 := by omega
      obtain rfl : cc = iv := by rw [← HINV.eq]; exact qw_end hst.out
      clear hst c0 c1 s0' s1' r0 hr hr1
      replace a1 := a1.out
      replace a2 := a2.out
      replace a3 := a3.out
      replace a4 := a4.out
      replace a5 := a5.out
      replace a6 := a6.out
      replace a6b := a6b.out
      replace a7 := a7.out
      go_upto_region 19 with (first
        | (go_at_call 8; with_reducible refine (HM1.out _ B1.out).mono ?_; rintro e wb ⟨rfl, hb⟩; have B2 := Lib.hid (bel_trans B1.out hb); clear hb)
        | (refine list_storeR rfl (.tmp 25) (.tmp 127) rfl wb.heap.size rfl line key A1 Bq ds1 rfl hl1.out 0 0 0 0 (List.replicate 32 0) (RBlk.new wb) ?_))
      intro wb' qb kb
      have Kb := Lib.hid ((bel_alloc1 wb _).trans (kb.below (Nat.le_refl _)))
      have X3 := Lib.hid qb
      have B3 := Lib.hid (bel_trans B2.out Kb.out)
      clear qb kb Kb
      generalize wb.heap.size = xb at X3 ⊢
      go_upto_region 20 with (first
        | (go_at_call 8; with_reducible refine (HM2.out _ B3.out).mono ?_; rintro e wc ⟨rfl, hb⟩; have B4 := Lib.hid (bel_trans B3.out hb); have X4 := Lib.hid (X3.out.bel hb); clear hb)
        | (refine list_storeR rfl (.tmp 27) (.tmp 135) rfl wc.heap.size rfl line key A2 Bq ds2 rfl hl2.out 0 0 0 0 (List.replicate 32 0) (RBlk.new wc) ?_))
      intro wc' qc kc
      have Kc := Lib.hid ((bel_alloc1 wc _).trans (kc.below (Nat.le_refl _)))
      have Y5 := Lib.hid qc
      have B5 := Lib.hid (bel_trans B4.out Kc.out)
      have X5 := Lib.hid (X4.out.bel Kc.out)
      clear qc kc Kc
      generalize wc.heap.size = yb at Y5 ⊢
      obtain ⟨x0, x1, x2, x3⟩ := X5.out.ints
      obtain ⟨y0, y1, y2, y3⟩ := Y5.out.ints
      go_wp2_with (first
        | (refine list_loadR (by rfl) (.tmp 25) rfl xb rfl line key A1 Bq ds1 X5.out ?_)
        | (refine list_loadR (by rfl) (.tmp 27) rfl yb rfl line key A2 Bq ds2 Y5.out ?_))
      go_ret
      exact ⟨rfl, B5.out⟩
theorem hidden_walk (line sec x y r : Int) (w : World) (hk : Hid (KeysAt w)) :
    Calls Tryd.prog 4 #[.int .i64 line, .int .i64 sec, .int .i64 x, .int .i64 y, .int .i64 r] w fun e w' => e = .returned (.bool true) ∧ Below w.heap.size w w' := by
  by_cases g0 : sec < 1
  · exact hidden_e0 line sec x y r w hk  g0
  by_cases g1 : sec ≥ 1073741789
  · exact hidden_e1 line sec x y r w hk g0 g1
  by_cases g2 : line < 0
  · exact hidden_e2 line sec x y r w hk g0 g1 g2
  by_cases g3 : line ≥ 64
  · exact hidden_e3 line sec x y r w hk g0 g1 g2 g3
  by_cases g4 : r < 0
  · exact hidden_e4 line sec x y r w hk g0 g1 g2 g3 g4
  by_cases g5 : r ≥ 1073741789
  · exact hidden_e5 line sec x y r w hk g0 g1 g2 g3 g4 g5
  by_cases g6 : x < 0
  · exact hidden_e6 line sec x y r w hk g0 g1 g2 g3 g4 g5 g6
  by_cases g7 : x ≥ 1073741789
  · exact hidden_e7 line sec x y r w hk g0 g1 g2 g3 g4 g5 g6 g7
  by_cases g8 : y < 0
  · exact hidden_e8 line sec x y r w hk g0 g1 g2 g3 g4 g5 g6 g7 g8
  by_cases g9 : y ≥ 1073741789
  · exact hidden_e9 line sec x y r w hk g0 g1 g2 g3 g4 g5 g6 g7 g8 g9
  obtain ⟨key, hkey⟩ : ∃ q, powZ 4 sec = q := ⟨_, rfl⟩
  obtain ⟨gu, hgu⟩ : ∃ q, powZ 4 x = q := ⟨_, rfl⟩
  obtain ⟨gv, hgv⟩ : ∃ q, powZ 4 y = q := ⟨_, rfl⟩
  obtain ⟨na, hna⟩ : ∃ q, numZ gu = q := ⟨_, rfl⟩
  obtain ⟨nb, hnb⟩ : ∃ q, numZ gv = q := ⟨_, rfl⟩
  have hek : elB key = true := by rw [← hkey]; exact powZ_el elB_4 _
  have heu : elB gu = true := by rw [← hgu]; exact powZ_el elB_4 _
  have hev : elB gv = true := by rw [← hgv]; exact powZ_el elB_4 _
  obtain ⟨nu1, nu2⟩ := elm_num heu
  obtain ⟨nv1, nv2⟩ := elm_num hev
  rw [hna] at nu1 nu2
  rw [hnb] at nv1 nv2
  obtain ⟨iv, hiv⟩ : ∃ q : Int, (powQ sec.toNat (1073741787 : Int).toNat : Int) = q := ⟨_, rfl⟩
  have hs0 : sec % 1073741789 = sec := by omega
  have hiz : invZ sec = iv := by rw [← hiv]; unfold invZ; rw [hs0]
  have hinv1 : (iv * sec) % 1073741789 = 1 := by rw [← hiz]; exact inv_ok (by omega)
  have hivr : 0 ≤ iv ∧ iv < 1073741789 := by
    rw [← hiv]
    unfold powQ powM
    have := Nat.mod_lt (sec.toNat ^ (1073741787 : Int).toNat) (show 0 < 1073741789 by omega)
    omega
  obtain ⟨d1, hd1⟩ : ∃ q, (x - y + 1073741789) % 1073741789 = q := ⟨_, rfl⟩
  have hd1r : 0 ≤ d1 ∧ d1 < 1073741789 := by omega
  obtain ⟨hm1, hm2⟩ := mulQ_bound hd1r.1 hd1r.2 hivr.1 hivr.2
  obtain ⟨d2, hd2⟩ : ∃ q, (d1 * iv) % 1073741789 = q := ⟨_, rfl⟩
  obtain ⟨q, hq⟩ : ∃ q, (r + d2) % 1073741789 = q := ⟨_, rfl⟩
  have hd2r : 0 ≤ d2 ∧ d2 < 1073741789 := by omega
  -- sec * q and sec * r + (x - y) are one number modulo Q
  have hcore : (y + sec * q) % 1073741789 = (x + sec * r) % 1073741789 := by
    have e1 : (sec * q) % 1073741789 = (sec * (r + d2)) % 1073741789 := by rw [← hq, Int.mul_emod, Int.emod_emod_of_dvd _ (Int.dvd_refl _), ← Int.mul_emod]
    have e2 : (sec * d2) % 1073741789 = (d1 * (iv * sec)) % 1073741789 := by
      rw [← hd2, Int.mul_emod, Int.emod_emod_of_dvd _ (Int.dvd_refl _), ← Int.mul_emod, Int.mul_comm sec, Int.mul_assoc]
    have e3 : (d1 * (iv * sec)) % 1073741789 = d1 % 1073741789 := by rw [Int.mul_emod, hinv1, Int.mul_one, Int.emod_emod_of_dvd _ (Int.dvd_refl _)]
    rw [Int.mul_add] at e1
    omega
  obtain ⟨A1, B1, hc1⟩ := isCip key gu r
  obtain ⟨A2, B2, hc2⟩ := isCip key gv q
  have hB : B2 = B1 := by
    rw [← hc1.hb, ← hc2.hb, ← hgu, ← hgv, ← hkey, powZ_mul elB_4, powZ_mul elB_4, powZ_add elB_4, powZ_add elB_4]
    exact powZ_congr 4 hcore
  subst hB
  obtain ⟨ds1, ht1⟩ := isTag line key A1 B2
  have hlb := Lib.hid (show lineB line = true from lineB_iff.2 ⟨by omega, by omega⟩)
  have hwa := Lib.hid (show wordB na = true from wordB_iff.2 nu1)
  have hwb := Lib.hid (show wordB nb = true from wordB_iff.2 nv1)
  have C1 := Lib.hid (show IsCip key (elmZ na) r A1 B2 by rw [nu2]; exact hc1)
  have C2 := Lib.hid (show IsCip key (elmZ nb) q A2 B2 by rw [nv2]; exact hc2)
  have HM1 : Hid (∀ g : World, Below w.heap.size w g → Calls Tryd.prog 8 #[.int .i64 line, .int .i64 key, .int .i64 na, .int .i64 r] g fun e w' => e = .returned (.tuple #[.agg (rtv line key A1 B2 ds1).toArray, .int .i64 0]) ∧ Below g.heap.size g w') := Lib.hid fun g hg => omake_ok line key na r g hlb (Lib.hid hek) hwa A1 B2 ds1 C1 (Lib.hid ht1) (Lib.hid (hk.out.below hg))
  by_cases hxy : x = y
  · have hrq : q = r := by
      have : d1 = 0 := by omega
      have : d2 = 0 := by rw [← hd2, this, Int.zero_mul]; rfl
      omega
    have hA : A2 = A1 := by rw [← hc1.ha, ← hc2.ha, hrq]
    subst hA
    exact hidden_same line sec x y r w hk g0 g1 g2 g3 g4 g5 g6 g7 g8 g9 key gu gv na nb iv ⟨hkey⟩ ⟨hgu⟩ ⟨hgv⟩ ⟨heu, hna⟩ ⟨hev, hnb⟩ ⟨hiv⟩ d1 d2 q (Lib.hid (by omega)) (Lib.hid hd1) (Lib.hid hm1) (Lib.hid hm2) (Lib.hid hd2) (Lib.hid hd2r.1) (Lib.hid hd2r.2) (Lib.hid hq) _ _ ds1 (Lib.hid ht1.len) (by simp [hxy]) (eqRt_same _ _ _ _ ds1 ht1.len) HM1 (Lib.hid fun g hg => omake_ok line key nb q g hlb (Lib.hid hek) hwb _ _ ds1 C2 (Lib.hid ht1) (Lib.hid (hk.out.below hg)))
  · obtain ⟨ds2, ht2⟩ := isTag line key A2 B2
    have hne : ¬ A1 = A2 := by
      intro h
      rw [← hc1.ha, ← hc2.ha] at h
      have h1 := pow4_inj h
      have h2 : d2 = 0 := by omega
      have h3 : d1 = 0 := by
        have e1 : (d1 * iv * sec) % 1073741789 = 0 := by rw [Int.mul_emod, hd2, h2, Int.zero_mul]; rfl
        rw [Int.mul_assoc, Int.mul_emod, hinv1, Int.mul_one, Int.emod_emod_of_dvd _ (Int.dvd_refl _)] at e1
        omega
      omega
    exact hidden_diff line sec x y r w hk g0 g1 g2 g3 g4 g5 g6 g7 g8 g9 key gu gv na nb iv ⟨hkey⟩ ⟨hgu⟩ ⟨hgv⟩ ⟨heu, hna⟩ ⟨hev, hnb⟩ ⟨hiv⟩ d1 d2 q (Lib.hid (by omega)) (Lib.hid hd1) (Lib.hid hm1) (Lib.hid hm2) (Lib.hid hd2) (Lib.hid hd2r.1) (Lib.hid hd2r.2) (Lib.hid hq) A1 B2 ds1 (Lib.hid ht1.len) A2 ds2 (Lib.hid ht2.len) (by simp [hxy]) (by simp [hne]) (fun w => by rw [eqRt_any line key A1 B2 ds1 line key A2 B2 ds2 ht1.len ht2.len w]; simp [hne]) HM1 (Lib.hid fun g hg => omake_ok line key nb q g hlb (Lib.hid hek) hwb A2 B2 ds2 C2 (Lib.hid ht2) (Lib.hid (hk.out.below hg)))

namespace onetimeHidden
theorem readable : ∀ t ∈ Tryd.f4.params.toList, Tryd.prog.readableRec t = true ∧ t < Tryd.prog.types.size := by
  rw [Tryd.params4]
  intro t ht
  simp only [List.mem_cons, List.not_mem_nil, or_false] at ht
  rcases ht with rfl | rfl | rfl | rfl | rfl
  all_goals exact ⟨by kernel_rfl, by decide +kernel⟩

set_option maxRecDepth 100000 in
theorem lifted (os : Os) (started : os.Started) (H : Type) (enc : TypeId × Value → H) :
    ReturnsInHanded {} Tryd.checked os 4 .any (fun w args => (Rows.onetimeHiddenSpec.pre enc Tryd.prog Tryd.f4 [] false w args ∧ laidMetH Tryd.prog laidK w) ∧ sizedMet enc Tryd.prog Tryd.f4 (OpenSpec.ofChange Rows.onetimeHiddenSpec) false w args)
      (Rows.onetimeHiddenSpec.post enc Tryd.prog Tryd.f4 false true false false) := by
  refine returnsInHanded_of_change_and (C := Tryd.checked) (X := fun w _ => laidMetH Tryd.prog laidK w) (fun _ _ _ hh h => h.of_heap hh) own_knob started (by kernel_rfl) Tryd.func4
    (ChangeSpec.witness_shaped (enc := enc) (C := Tryd.checked) (os := os) (X := fun w _ => laidMetH Tryd.prog laidK w) false (World.doorLaid Tryd.prog 400 os) #[.int .i64 0, .int .i64 0, .int .i64 0, .int .i64 0, .int .i64 0] 8 rfl (World.shaped_of_RefB (by kernel_rfl) (by kernel_rfl)) (by kernel_rfl) (by kernel_rfl) (by kernel_rfl) (door_met os _)) ?_
  intro W base args ds gs before hval0 hW _ _ hL _
  have hval : ∀ (j : Nat) t v, Tryd.f4.params[j]? = some t → args[j]? = some v → Value.okWide Tryd.prog W .any base t v := hval0
  have hW' := hW
  obtain ⟨p, q, hA0, hV, rfl, hfz, hnd⟩ := hW
  have hA : DataW.TrodAll enc Tryd.prog W 0 (fun _ => true) true Tryd.f4.params.toList args.toList ds p := hA0
  rw [Tryd.params4] at hA hval
  obtain ⟨v0, vs0, d0, ds0, p0, q0, hargs, rfl, rfl, h0, r0⟩ := trodAll_cons hA
  obtain ⟨v1, vs1, d1, ds1, p1, q1, rfl, rfl, rfl, h1, r1⟩ := trodAll_cons r0
  obtain ⟨v2, vs2, d2, ds2, p2, q2, rfl, rfl, rfl, h2, r2⟩ := trodAll_cons r1
  obtain ⟨v3, vs3, d3, ds3, p3, q3, rfl, rfl, rfl, h3, r3⟩ := trodAll_cons r2
  obtain ⟨v4, vs4, d4, ds4, p4, q4, rfl, rfl, rfl, h4, r4⟩ := trodAll_cons r3
  obtain ⟨rfl, rfl, rfl⟩ := trodAll_nil r4
  obtain rfl : args = #[v0, v1, v2, v3, v4] := by cases args; simp_all
  obtain ⟨rfl, rfl⟩ := trodVars_none hV
  obtain ⟨a0, rfl, rfl, rfl, w0⟩ := open_int Tryd.underlying3 (hval 0 3 v0 rfl rfl) h0
  obtain ⟨a1, rfl, rfl, rfl, w1⟩ := open_int Tryd.underlying3 (hval 1 3 v1 rfl rfl) h1
  obtain ⟨a2, rfl, rfl, rfl, w2⟩ := open_int Tryd.underlying3 (hval 2 3 v2 rfl rfl) h2
  obtain ⟨a3, rfl, rfl, rfl, w3⟩ := open_int Tryd.underlying3 (hval 3 3 v3 rfl rfl) h3
  obtain ⟨a4, rfl, rfl, rfl, w4⟩ := open_int Tryd.underlying3 (hval 4 3 v4 rfl rfl) h4
  have hK := of_laid hL
  clear hA0 hval0
  refine (hidden_walk a0 a1 a2 a3 a4 W (Lib.hid hK)).mono fun e W' ⟨he, hb⟩ => ?_
  subst he
  exact ⟨_, rfl, law_post laid_out readable rfl rfl Tryd.underlying4 hW' rfl rfl rfl hb⟩

theorem over : Rows.onetimeHiddenRow.holds Tryd.pinned (OpenSpec.ofChange Rows.onetimeHiddenSpec) :=
  OpenClaim.holds_of_wide 4 Tryd.f4 rfl rfl rfl rfl rfl rfl rfl ⟨rfl, rfl, rfl, rfl, rfl⟩ rfl rfl rfl rfl rfl (by kernel_rfl) Tryd.func4 (by kernel_rfl)
    (of_decide_eq_true (by kernel_rfl)) (by unfold Func.isWrapper; first | (rw [if_pos (by decide +kernel)]; kernel_rfl) | (rw [if_neg (by decide +kernel)]; exact ⟨rfl, rfl⟩))
    (fun os started H enc _ => lifted os started H enc)

/-- the statement: the tied card -/
theorem proved : Rows.OnetimeHiddenCardSaid :=
  Claim7.holds_tied_plain_at .later [] [.data] true (true, "48b241c494b1766600b3c9a1f13317d893376b1912b4a40efa5fe89d39ab7e7a") false
    over (fun _ h => by cases h) (by kernel_rfl) (fun _ h => by cases h) onetimeHidden_row_tie rfl ⟨rfl, rfl⟩ (by kernel_rfl) rfl
    (fun f fn hf hfn => by
      obtain rfl : f = 4 := Option.some.inj ((show Tryd.prog.funcNamed "franking/frankinglaw16.OnetimeHidden" = some 4 by kernel_rfl).symm.trans hf) |>.symm
      obtain rfl : fn = Tryd.f4 := (Option.some.inj (Tryd.func4.symm.trans hfn)).symm
      exact ⟨by kernel_rfl, fun j t ht => by
        rw [Tryd.params4] at ht
        have hm : t ∈ [3, 3, 3, 3, 3] := by simpa using Array.mem_of_getElem? ht
        have hall : ([3, 3, 3, 3, 3].all fun u => !Tryd.prog.wantsStandIn u) = true := by kernel_rfl
        exact (show Tryd.prog.wantsStandIn t = false by simpa using List.all_eq_true.1 hall t hm)⟩)
    (by kernel_rfl)
end onetimeHidden
end Go.Proofs.YtcedmiojmepioaaDoor
