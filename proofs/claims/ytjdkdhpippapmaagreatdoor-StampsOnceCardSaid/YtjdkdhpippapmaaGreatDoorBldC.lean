/- Package blind: what is calculated; points and hashes. Package blind: hashes, Begin, Ask, Answer. Package blind: Finish, Link; the reference's Transcript. Package blind: Link; the chapter's examples. -/
import Derived.Test.YtjdkdhpippapmaaGreatDoorSigEnc0
import Derived.Test.YtjdkdhpippapmaaGreatDoorRef11
import Derived.Test.YtjdkdhpippapmaaGreatDoorRegU
import Derived.Test.YtjdkdhpippapmaaGreatDoorSigVer
import Derived.Test.YtjdkdhpippapmaaGreatDoorGroupRef
namespace Go.Proofs.YtjdkdhpippapmaaGreatDoor
open Go.RowKit
set_option linter.unusedVariables false
set_option linter.unusedSimpArgs false

set_option maxHeartbeats 400000 in
theorem reduce_any (n : Int) (w : World) : Calls Tryz.prog 92 #[.int .i64 n] w fun e w' => e = .returned (.int .i64 (modQ n)) ∧ w = w' := by
  have H := Lib.hid (exp_eq n)
  have h1 := Int.tmod_lt_of_pos n (show (0 : Int) < 1073741789 by omega)
  have h2 : -1073741789 < n.tmod 1073741789 := Int.lt_tmod_of_pos n (by omega)
  go_enter Tryz.func92, Tryz.ntmps92
  go_wp2
  go_ret
  exact ⟨ret_int H.out, rfl⟩
theorem modQ_add (a b : Int) : modQ (modQ a + modQ b) = modQ (a + b) := by unfold modQ; omega
theorem modQ_sub (a b : Int) : modQ (modQ a - modQ b) = modQ (a - b) := by unfold modQ; omega
theorem modQ_mul (a b : Int) : modQ (modQ a * modQ b) = modQ (a * b) := by unfold modQ; rw [← Int.mul_emod]
set_option maxHeartbeats 400000 in
theorem bplus_is (a b r : Int) (w : World) (h : Hid (modQ (a + b) = r)) : Calls Tryz.prog 68 #[.int .i64 a, .int .i64 b] w fun e w' => e = .returned (.int .i64 r) ∧ w = w' := by
  obtain ⟨a0, a1⟩ := modQ_rng a
  obtain ⟨b0, b1⟩ := modQ_rng b
  have H := Lib.hid ((modQ_add a b).trans h.out)
  clear h
  go_enter Tryz.func68, Tryz.ntmps68
  go_wp2_with (go_at_call 92; refine (reduce_any _ _).mono ?_; rintro e w' ⟨rfl, rfl⟩)
  go_ret
  exact ⟨ret_int H.out, rfl⟩
set_option maxHeartbeats 400000 in
theorem bminus_is (a b r : Int) (w : World) (h : Hid (modQ (a - b) = r)) : Calls Tryz.prog 59 #[.int .i64 a, .int .i64 b] w fun e w' => e = .returned (.int .i64 r) ∧ w = w' := by
  obtain ⟨a0, a1⟩ := modQ_rng a
  obtain ⟨b0, b1⟩ := modQ_rng b
  have H := Lib.hid ((modQ_sub a b).trans h.out)
  clear h
  go_enter Tryz.func59, Tryz.ntmps59
  go_wp2_with (go_at_call 92; refine (reduce_any _ _).mono ?_; rintro e w' ⟨rfl, rfl⟩)
  go_ret
  exact ⟨ret_int H.out, rfl⟩
set_option maxHeartbeats 400000 in
theorem btimes_is (a b r : Int) (w : World) (h : Hid (modQ (a * b) = r)) : Calls Tryz.prog 81 #[.int .i64 a, .int .i64 b] w fun e w' => e = .returned (.int .i64 r) ∧ w = w' := by
  obtain ⟨a0, a1⟩ := modQ_rng a
  obtain ⟨b0, b1⟩ := modQ_rng b
  obtain ⟨m0, m1⟩ := mulQ_bound a0 a1 b0 b1
  have H := Lib.hid ((modQ_mul a b).trans h.out)
  clear h
  go_enter Tryz.func81, Tryz.ntmps81
  go_wp2_with (go_at_call 92; refine (reduce_any _ _).mono ?_; rintro e w' ⟨rfl, rfl⟩)
  go_ret
  exact ⟨ret_int H.out, rfl⟩
def secB (n : Int) : Bool := decide (1 ≤ n) && decide (n < 1073741789)
theorem secB_iff {n : Int} : secB n = true ↔ 1 ≤ n ∧ n < 1073741789 := by unfold secB; simp
set_option maxHeartbeats 400000 in
theorem bInRange_any (n : Int) (v : Bool) (w : World) (hv : secB n = v) : Calls Tryz.prog 80 #[.int .i64 n] w fun e w' => e = .returned (.bool v) ∧ w = w' := by
  subst hv
  unfold secB
  by_cases h1 : 1 ≤ n
  · go_enter Tryz.func80, Tryz.ntmps80
    go_wp2
    go_ret
    refine ⟨?_, rfl⟩
    simp [h1]
  · go_enter Tryz.func80, Tryz.ntmps80
    go_wp2
    go_ret
    have h2 : decide (1 ≤ n) = false := by simpa using h1
    rw [h2]
    exact ⟨rfl, rfl⟩
set_option maxHeartbeats 400000 in
theorem bpow_is (a n r : Int) (w : World) (h : Hid (IsPw a n r)) : Calls Tryz.prog 57 #[.int .i64 a, .int .i64 n] w fun e w' => e = .returned (.int .i64 r) ∧ Below w.heap.size w w' := by
  have hc : ∀ u, Calls Tryz.prog 74 #[.int .i64 a, .int .i64 n] u fun e w' => e = .returned (.tuple #[.int .i64 r, .int .i64 (powE a)]) ∧ Below u.heap.size u w' := fun u => by rw [← h.out.eq]; exact gPow_any a n u
  generalize powE a = er at hc
  go_enter Tryz.func57, Tryz.ntmps57
  go_wp2_with (go_at_call 74; refine (hc _).mono ?_; rintro e w' ⟨rfl, hb⟩)
  go_ret
  exact ⟨rfl, hb⟩
set_option maxHeartbeats 400000 in
/-- all of some numbers are elements -/
theorem belements_any (b off len cap : Nat) (zs : List Int) (w : World) (hz : len = zs.length) (hbig : len ≤ 9223372036854775807) (hc : ∀ j, j < zs.length → w.cell? ⟨b, off + j, none⟩ = some (.int .i64 (zs.getD j 0))) :
    Calls Tryz.prog 56 #[.slice (some ⟨b, off, none⟩) len cap] w fun e w' => e = .returned (.bool (zs.all elB)) ∧ w = w' := by
  have HZ := Lib.hid hz; clear hz
  have HC := Lib.hid hc; clear hc
  go_enter Tryz.func56, Tryz.ntmps56
  go_wp2
  go_loop [7] (fun i => ∃ k : Nat, k ≤ len ∧ i = .int .i64 k ∧ (zs.take k).all elB = true) (fun i => len - (intOf i).toNat)
  case atStart => exact ⟨0, Nat.zero_le _, rfl, rfl⟩
  case round =>
    obtain ⟨k, hk, rfl, hp⟩ := hrel
    have HP := Lib.hid hp; clear hp
    by_cases hlt : k < len
    · have hcell := HC.out k (by have := HZ.out; omega)
      have HT := Lib.hid (all_take elB zs k (by have := HZ.out; omega))
      have HF := Lib.hid (all_false elB zs k (by have := HZ.out; omega))
      generalize hx : zs.getD k 0 = x at hcell HT HF
      clear hx
      cases hv : elB x with
      | true =>
        have HV := Lib.hid hv
        go_wp2_with (go_at_call 72; refine (valid_any _ _).mono ?_; rintro e w' ⟨rfl, rfl⟩)
        go_round
        case rel => exact ⟨k + 1, by omega, by go_num, by rw [HT.out, HP.out, HV.out]; rfl⟩
        case measure => simp [intOf]; omega
      | false =>
        have HV := Lib.hid hv
        go_wp2_with (go_at_call 72; refine (valid_any _ _).mono ?_; rintro e w' ⟨rfl, rfl⟩)
        go_ret
        exact ⟨ret_bool (HF.out HV.out).symm, rfl⟩
    · go_wp2
      go_ret
      exact ⟨ret_bool (by have h := HP.out; rw [List.take_of_length_le (by have := HZ.out; omega)] at h; exact h.symm), rfl⟩


def prodZ (zs : List Int) : Int := zs.foldl mulZ 1
structure IsPr (zs : List Int) (r : Int) : Prop where
  eq : prodZ zs = r
theorem prod_take {zs : List Int} {k : Nat} (h : k < zs.length) : prodZ (zs.take (k + 1)) = mulZ (prodZ (zs.take k)) (zs.getD k 0) := by
  unfold prodZ
  rw [List.take_succ_eq_append_getElem h, List.foldl_append, List.getD_eq_getElem?_getD, List.getElem?_eq_getElem h, Option.getD_some, List.foldl_cons, List.foldl_nil]
set_option maxRecDepth 100000 in
set_option maxHeartbeats 1000000 in
theorem bproduct_any (b off len cap : Nat) (zs : List Int) (w : World) (hz : len = zs.length) (hbig : len ≤ 9223372036854775807) (hb : b < w.heap.size) (hc : ∀ j, j < zs.length → w.cell? ⟨b, off + j, none⟩ = some (.int .i64 (zs.getD j 0))) (r : Int) (hr : Hid (IsPr zs r)) :
    Calls Tryz.prog 58 #[.slice (some ⟨b, off, none⟩) len cap] w fun e w' => e = .returned (.int .i64 r) ∧ Below w.heap.size w w' := by
  have HZ := Lib.hid hz; clear hz
  have HC := Lib.hid hc; clear hc
  go_enter Tryz.func58, Tryz.ntmps58
  go_wp2_with fail
  go_loopw [3, 8] (fun x i wr => ∃ (k : Nat) (c : Int), k ≤ len ∧ i = .int .i64 k ∧ x = .int .i64 c ∧ Hid (IsPr (zs.take k) c) ∧ Hid (Below w.heap.size w wr)) (fun _ i _ => len - (intOf i).toNat)
  case atStart => exact ⟨0, 1, Nat.zero_le _, rfl, rfl, Lib.hid ⟨rfl⟩, Lib.hid (Below.refl _ _)⟩
  case round =>
    obtain ⟨k, c, hk, rfl, rfl, hp, HB⟩ := hrel
    by_cases hlt : k < len
    · have hkl : k < zs.length := by rw [← HZ.out]; exact hlt
      have hcell := (HB.out.cell (p := ⟨b, off + k, none⟩) hb).trans (HC.out k hkl)
      have HT := prod_take hkl
      rw [hp.out.eq] at HT
      generalize zs.getD k 0 = x at hcell HT
      obtain ⟨y, hy⟩ := isMl c x
      rw [hy.eq] at HT
      have HT' := Lib.hid (IsPr.mk HT)
      have hcm : ∀ u, Calls Tryz.prog 75 #[.int .i64 c, .int .i64 x] u fun e w' => e = .returned (.tuple #[.int .i64 y, .int .i64 (mulE c x)]) ∧ Below u.heap.size u w' := fun u => by rw [← hy.eq]; exact gMul_any c x u
      generalize mulE c x = er at hcm
      have HCM := Lib.hid hcm
      clear HT hy hcm
      go_wp2_with (go_at_call 75; refine (HCM.out _).mono ?_; rintro e u1 ⟨rfl, hbm⟩)
      refine ⟨⟨k + 1, y, by omega, by simp, rfl, HT', Lib.hid (bel_trans HB.out hbm)⟩, ?_⟩
      simp only [intOf]; omega
    · go_wp2_with fail
      go_ret
      have h := hp.out.eq
      rw [List.take_of_length_le (by have := HZ.out; omega)] at h
      exact ⟨ret_int (h.symm.trans hr.out.eq), HB.out⟩
theorem ints_blk {w : World} {b : Nat} {zs : List Int} {t : TypeId} (h : Blk w b (zs.map (Value.int .i64)).toArray t) (j : Nat) (hj : j < zs.length) : w.cell? ⟨b, 0 + j, none⟩ = some (.int .i64 (zs.getD j 0)) := by
  rw [Nat.zero_add, h.cell j]; simp [List.getD, hj]
theorem foldl3 (f : Int → Int → Int) (x r a b : Int) : [r, a, b].foldl f x = f (f (f x r) a) b := rfl
theorem foldl2 (f : Int → Int → Int) (x r a : Int) : [r, a].foldl f x = f (f x r) a := rfl
theorem put3 (f : Int → Int → Int) {x r z a b : Int} (h : f x r = z) : f (f (f x r) a) b = f (f z a) b := by rw [h]
theorem put2 (f : Int → Int → Int) {x r z a : Int} (h : f x r = z) : f (f x r) a = f z a := by rw [h]
theorem prod3 {r a b : Int} (hr : elB r = true) : prodZ [r, a, b] = mulZ (mulZ r a) b := (foldl3 mulZ 1 r a b).trans (put3 mulZ (mulZ_one hr))
theorem prod2 {r a : Int} (hr : elB r = true) : prodZ [r, a] = mulZ r a := (foldl2 mulZ 1 r a).trans (put2 mulZ (mulZ_one hr))
set_option maxHeartbeats 400000 in
theorem right_any (key r u v : Int) (b : Bool) (w : World) (hv : Hid ((elB key && elB r) = b)) : Calls Tryz.prog 67 #[.agg #[.int .i64 key, .int .i64 r, .int .i64 u, .int .i64 v]] w fun e w' => e = .returned (.bool b) ∧ Below w.heap.size w w' := by
  have hall : Hid ([key, r].all elB = b) := Lib.hid (by rw [← hv.out]; simp)
  have V := Blk.new (w.alloc (.cells #[.int .i64 key, .int .i64 r, .int .i64 u, .int .i64 v] 97)) #[.int .i64 key, .int .i64 r] 3
  have HV := Lib.hid V
  clear V
  go_enter Tryz.func67, Tryz.ntmps67
  go_wp2_with (go_at_call 56; refine (belements_any (w.heap.size + 1) 0 2 2 [key, r] _ rfl (by omega) (fun j hj => ints_blk (zs := [key, r]) (by have := HV.out; simpa using this) j hj)).mono ?_; rintro e w' ⟨rfl, rfl⟩; rw [hall.out])
  go_ret
  exact ⟨rfl, (bel_alloc1 w _).alloc (by simp) _⟩
structure IsBp (key r u v pt : Int) : Prop where
  eq : bpZ key r u v = pt
theorem isBp (key r u v : Int) : ∃ pt, IsBp key r u v pt := ⟨_, ⟨rfl⟩⟩
set_option maxRecDepth 100000 in
set_option maxHeartbeats 2000000 in
theorem bpoint_is (key r u v pt : Int) (w : World) (hr : Hid (elB r = true)) (hp : Hid (IsBp key r u v pt)) : Calls Tryz.prog 96 #[.agg #[.int .i64 key, .int .i64 r, .int .i64 u, .int .i64 v]] w fun e w' => e = .returned (.int .i64 pt) ∧ Below w.heap.size w w' := by
  obtain ⟨x, hx⟩ := isPw 4 u
  obtain ⟨y, hy⟩ := isPw key v
  have h1 := hp.out.eq
  unfold bpZ at h1
  rw [hx.eq, hy.eq, ← prod3 hr.out] at h1
  have HPR := Lib.hid (IsPr.mk h1); have HX := Lib.hid hx; have HY := Lib.hid hy
  clear h1 hx hy
  go_enter Tryz.func96, Tryz.ntmps96
  go_wp2_with fail
  refine wp_region_any (by kernel_rfl) ?_
  change wpAny _ _ _ _ _ _ _ (World.drew _)
  generalize hWD : World.drew _ = W
  have BX := Lib.hid (show Blk W w.heap.size #[.int .i64 key, .int .i64 r, .int .i64 u, .int .i64 v] 97 by rw [← hWD]; exact Blk.new w _ _)
  have EW := Lib.hid (show Below w.heap.size w W by rw [← hWD]; exact (bel_alloc1 w _).drew)
  clear hWD
  have hCD : ∀ u, Ext W u → Ext W u := fun u hu => hu
  refine region_U (D := Ext W) (Ext W) [11, 12] (Ext.refl W) ?_
  refine anyU_takeD (i := 0) (v := .pointer (some ⟨w.heap.size, 1, none⟩)) 3 rfl rfl (by kernel_rfl) (by kernel_rfl) (by kernel_rfl) (fun _ _ _ h => h) (by kernel_rfl) (Ext.stable _) hCD (yieldsU_val rfl (fun u hu => by go_simp)) ?_
  refine anyU_takeD (i := 1) (v := .int .i64 r) 4 rfl rfl (by kernel_rfl) (by kernel_rfl) (by kernel_rfl) (fun _ _ _ h => h) (by kernel_rfl) (Ext.stable _) hCD (yieldsU_val rfl (fun u hu => by have c := (BX.out.below hu BX.out.lt).cell 1; go_simp)) ?_
  refine anyU_takeD (i := 2) (v := .pointer (some ⟨w.heap.size, 2, none⟩)) 5 rfl rfl (by kernel_rfl) (by kernel_rfl) (by kernel_rfl) (fun _ _ _ h => h) (by kernel_rfl) (Ext.stable _) hCD (yieldsU_val rfl (fun u hu => by go_simp)) ?_
  refine anyU_takeD (i := 3) (v := .int .i64 u) 6 rfl rfl (by kernel_rfl) (by kernel_rfl) (by kernel_rfl) (fun _ _ _ h => h) (by kernel_rfl) (Ext.stable _) hCD (yieldsU_val rfl (fun u hu => by have c := (BX.out.below hu BX.out.lt).cell 2; go_simp)) ?_
  simp only [Act.put, List.setIfInBounds_toArray, List.set_cons_succ, List.set_cons_zero]
  refine anyU_takeD (i := 4) (v := .int .i64 x) 7 rfl rfl (by kernel_rfl) (by kernel_rfl) (by kernel_rfl) (fun _ _ _ h => h) (by kernel_rfl) (Ext.stable _) hCD (yieldsU_call rfl 57 _ _ rfl #[.int .i64 4, .int .i64 u] (by simp [Act.eval, Act.put]) (fun u => by go_simp) (fun u hu => bpow_is 4 _ x _ HX)) ?_
  simp only [Act.put, List.setIfInBounds_toArray, List.set_cons_succ, List.set_cons_zero]
  refine anyU_takeD (i := 5) (v := .pointer (some ⟨w.heap.size, 0, none⟩)) 8 rfl rfl (by kernel_rfl) (by kernel_rfl) (by kernel_rfl) (fun _ _ _ h => h) (by kernel_rfl) (Ext.stable _) hCD (yieldsU_val rfl (fun u hu => by go_simp)) ?_
  refine anyU_takeD (i := 6) (v := .int .i64 key) 9 rfl rfl (by kernel_rfl) (by kernel_rfl) (by kernel_rfl) (fun _ _ _ h => h) (by kernel_rfl) (Ext.stable _) hCD (yieldsU_val rfl (fun u hu => by have c := (BX.out.below hu BX.out.lt).cell 0; go_simp)) ?_
  refine anyU_takeD (i := 7) (v := .pointer (some ⟨w.heap.size, 3, none⟩)) 10 rfl rfl (by kernel_rfl) (by kernel_rfl) (by kernel_rfl) (fun _ _ _ h => h) (by kernel_rfl) (Ext.stable _) hCD (yieldsU_val rfl (fun u hu => by go_simp)) ?_
  refine anyU_takeD (i := 8) (v := .int .i64 v) 11 rfl rfl (by kernel_rfl) (by kernel_rfl) (by kernel_rfl) (fun _ _ _ h => h) (by kernel_rfl) (Ext.stable _) hCD (yieldsU_val rfl (fun u hu => by have c := (BX.out.below hu BX.out.lt).cell 3; go_simp)) ?_
  simp only [Act.put, List.setIfInBounds_toArray, List.set_cons_succ, List.set_cons_zero]
  refine anyU_takeD (i := 9) (v := .int .i64 y) 12 rfl rfl (by kernel_rfl) (by kernel_rfl) (by kernel_rfl) (fun _ _ _ h => h) (by kernel_rfl) (Ext.stable _) hCD (yieldsU_call rfl 57 _ _ rfl #[.int .i64 key, .int .i64 v] (by simp [Act.eval, Act.put]) (fun u => by go_simp) (fun u hu => bpow_is key v y _ HY)) ?_
  simp only [Act.put, List.setIfInBounds_toArray, List.set_cons_succ, List.set_cons_zero]
  refine anyU_one 10 2 _ rfl rfl (by kernel_rfl) ?_
  intro u1 hu
  go_wp2_with fail
  change ∃ C' : World → Prop, _ ∧ _ ∧ _ ∧ anyU _ _ _ _ _ _ 2 _ _ _
  have Z1 := Lib.hid (Blk.new u1 #[.int .i64 r, .int .i64 x, .int .i64 y] 3)
  have E1 := Lib.hid (Ext.trans hu (bel_alloc1 u1 (.cells #[.int .i64 r, .int .i64 x, .int .i64 y] 3)))
  generalize World.alloc u1 _ = u2 at Z1 E1 ⊢
  generalize u1.heap.size = bb at Z1 ⊢
  clear hu
  refine anchorF (fun z => Ext W z ∧ Blk z bb #[.int .i64 r, .int .i64 x, .int .i64 y] 3) (fun z hz => hz.1) ((Ext.stable W).and (fun z z' h k => h.below k h.lt)) ⟨E1.out, Z1.out⟩ ?_
  (try simp only [Act.put])
  refine anyU_tail 11 [12] rfl rfl (by decide) (by kernel_rfl) ?_
  intro u3 hu3
  simp only [Act.put, List.filterMap_cons, List.filterMap_nil, List.getElem?_cons_succ, List.getElem?_cons_zero]
  go_wp2_with fail
  refine (bproduct_any bb 0 3 3 [r, x, y] u3 rfl (by omega) hu3.2.lt (fun j hj => ints_blk (zs := [r, x, y]) hu3.2 j hj) pt HPR).mono ?_
  rintro e u4 ⟨rfl, hb⟩
  have B4 := Lib.hid (bel_trans EW.out (Below.trans hu3.1 (hb.mono hu3.1.size)))
  clear hb hu3
  go_wp2_with fail
  go_ret
  exact ⟨rfl, B4.out⟩
end Go.Proofs.YtjdkdhpippapmaaGreatDoor
namespace Go.Proofs.YtjdkdhpippapmaaGreatDoor
open Go.RowKit
set_option linter.unusedVariables false
set_option linter.unusedSimpArgs false

theorem enc3B (a b : Int) (bs : List Int) (st : ByteArray) (w : World) (g : Nat) (hst : strB bs = st) (ha : 0 ≤ a ∧ a < 2147483579) (hb : 0 ≤ b ∧ b < 2147483579) (hs : Hid (txOk bs)) (hB : Hid (Blk w g #[.int .i64 1, .int .i64 a, .string ⟨#[]⟩, .slice none 0 0, .int .i64 1, .int .i64 b, .string ⟨#[]⟩, .slice none 0 0, .int .i64 2, .int .i64 0, .string st, .slice none 0 0] 53)) :
    Calls Tryz.prog 23 #[.agg #[.int .i64 3, .int .i64 0, .string ⟨#[]⟩, .slice (some ⟨g, 0, none⟩) 3 3]] w
      fun e w' => ∃ v', e = .returned (.tuple #[v', .int .i64 0]) ∧ Own8 w' w.heap.size v' (encL [.int a, .int b, .text bs]) ∧ Below w.heap.size w w' := by
  subst hst
  have hB := hB.out
  refine encode_list [.int a, .int b, .text bs] g 0 3 3 w (Lib.hid rfl) (by omega) (Lib.hid (ok3 ha hb hs.out)) hB.lt (Lib.hid ?_) (Lib.hid (by rw [lenA3]; have := hs.out.1; omega))
  intro k hk
  have hk' : k < 3 := hk
  rcases (by omega : k = 0 ∨ k = 1 ∨ k = 2) with rfl | rfl | rfl
  · exact ⟨hB.cell 0, hB.cell 1, hB.cell 2, hB.cell 3⟩
  · exact ⟨hB.cell 4, hB.cell 5, hB.cell 6, hB.cell 7⟩
  · exact ⟨hB.cell 8, hB.cell 9, hB.cell 10, hB.cell 11⟩
set_option maxRecDepth 100000 in
set_option maxHeartbeats 2000000 in
theorem bhash_is (key r u v pt h : Int) (p : Option Addr) (m c : Nat) (bs : List Int) (w : World) (hkey : Hid (elB key = true)) (hr : Hid (elB r = true)) (hs : Hid (txOk bs)) (hz : Hid (SrcW w p m c bs)) (hk : Hid (KeysAt w)) (hp : Hid (IsBp key r u v pt)) (hh : Hid (IsCh pt key bs h)) :
    Calls Tryz.prog 69 #[.agg #[.int .i64 key, .int .i64 r, .int .i64 u, .int .i64 v, .slice p m c]] w fun e w' => e = .returned (.int .i64 h) ∧ Below w.heap.size w w' := by
  obtain ⟨st, hst⟩ : ∃ st, strB bs = st := ⟨_, rfl⟩
  have HST := Lib.hid hst
  clear hst
  have ke := elB_iff hkey.out
  have HKB := Lib.hid (show 0 ≤ key ∧ key < 2147483579 by omega)
  have pe := bpZ_el (key := key) (r := r) (u := u) (v := v) hkey.out hr.out
  rw [hp.out.eq] at pe
  have pe2 := elB_iff pe
  have HPB := Lib.hid (show 0 ≤ pt ∧ pt < 2147483579 by omega)
  clear ke pe pe2
  go_enter Tryz.func69, Tryz.ntmps69
  go_wp2_with fail
  refine wp_region_any (by kernel_rfl) ?_
  change wpAny _ _ _ _ _ _ _ (World.drew _)
  generalize hWD : World.drew _ = W
  have BX := Lib.hid (show Blk W w.heap.size #[.int .i64 key, .int .i64 r, .int .i64 u, .int .i64 v, .slice p m c] 99 by rw [← hWD]; exact Blk.new w _ _)
  have EW := Lib.hid (show Below w.heap.size w W by rw [← hWD]; exact (bel_alloc1 w _).drew)
  clear hWD
  have hCD : ∀ u, Ext W u → Ext W u := fun u hu => hu
  have ZW := Lib.hid (hz.out.below EW.out)
  refine region_U (D := Ext W) (Ext W) [13] (Ext.refl W) ?_
  refine anyU_takeD (i := 0) (v := .pointer (some ⟨w.heap.size, 0, none⟩)) 6 rfl rfl (by kernel_rfl) (by kernel_rfl) (by kernel_rfl) (fun _ _ _ h => h) (by kernel_rfl) (Ext.stable _) hCD (yieldsU_val rfl (fun u hu => by go_simp)) ?_
  refine anyU_takeD (i := 1) (v := .agg #[.int .i64 key, .int .i64 r, .int .i64 u, .int .i64 v]) 7 rfl rfl (by kernel_rfl) (by kernel_rfl) (by kernel_rfl) (fun _ _ _ h => h) (by kernel_rfl) (Ext.stable _) hCD (yieldsU_val rfl (fun u hu => by have VV := BX.out.below hu BX.out.lt; have c0 := VV.cell 0; have c1 := VV.cell 1; have c2 := VV.cell 2; have c3 := VV.cell 3; go_simp)) ?_
  simp only [Act.put, List.setIfInBounds_toArray, List.set_cons_succ, List.set_cons_zero]
  refine anyU_takeD (i := 2) (v := .int .i64 pt) 8 rfl rfl (by kernel_rfl) (by kernel_rfl) (by kernel_rfl) (fun _ _ _ h => h) (by kernel_rfl) (Ext.stable _) hCD (yieldsU_call rfl 96 _ _ rfl #[.agg #[.int .i64 key, .int .i64 r, .int .i64 u, .int .i64 v]] (by simp [Act.eval, Act.put]) (fun u => by go_simp) (fun u hu => bpoint_is key r _ v pt _ hr hp)) ?_
  simp only [Act.put, List.setIfInBounds_toArray, List.set_cons_succ, List.set_cons_zero]
  refine anyU_takeD (i := 3) (v := .agg #[.int .i64 1, .int .i64 pt, .string ⟨#[]⟩, .slice none 0 0]) 9 rfl rfl (by kernel_rfl) (by kernel_rfl) (by kernel_rfl) (fun _ _ _ h => h) (by kernel_rfl) (Ext.stable _) hCD (yieldsU_val rfl (fun u hu => by go_simp)) ?_
  refine anyU_takeD (i := 4) (v := .pointer (some ⟨w.heap.size, 0, none⟩)) 10 rfl rfl (by kernel_rfl) (by kernel_rfl) (by kernel_rfl) (fun _ _ _ h => h) (by kernel_rfl) (Ext.stable _) hCD (yieldsU_val rfl (fun u hu => by go_simp)) ?_
  refine anyU_takeD (i := 5) (v := .pointer (some ⟨w.heap.size, 0, none⟩)) 11 rfl rfl (by kernel_rfl) (by kernel_rfl) (by kernel_rfl) (fun _ _ _ h => h) (by kernel_rfl) (Ext.stable _) hCD (yieldsU_val rfl (fun u hu => by go_simp)) ?_
  refine anyU_takeD (i := 6) (v := .int .i64 key) 12 rfl rfl (by kernel_rfl) (by kernel_rfl) (by kernel_rfl) (fun _ _ _ h => h) (by kernel_rfl) (Ext.stable _) hCD (yieldsU_val rfl (fun u hu => by have c := (BX.out.below hu BX.out.lt).cell 0; go_simp)) ?_
  simp only [Act.put, List.setIfInBounds_toArray, List.set_cons_succ, List.set_cons_zero]
  refine anyU_takeD (i := 7) (v := .agg #[.int .i64 1, .int .i64 key, .string ⟨#[]⟩, .slice none 0 0]) 13 rfl rfl (by kernel_rfl) (by kernel_rfl) (by kernel_rfl) (fun _ _ _ h => h) (by kernel_rfl) (Ext.stable _) hCD (yieldsU_val rfl (fun u hu => by go_simp)) ?_
  refine anyU_takeD (i := 8) (v := .pointer (some ⟨w.heap.size, 4, none⟩)) 14 rfl rfl (by kernel_rfl) (by kernel_rfl) (by kernel_rfl) (fun _ _ _ h => h) (by kernel_rfl) (Ext.stable _) hCD (yieldsU_val rfl (fun u hu => by go_simp)) ?_
  refine anyU_takeD (i := 9) (v := .slice p m c) 15 rfl rfl (by kernel_rfl) (by kernel_rfl) (by kernel_rfl) (fun _ _ _ h => h) (by kernel_rfl) (Ext.stable _) hCD (yieldsU_val rfl (fun u hu => by have c := (BX.out.below hu BX.out.lt).cell 4; go_simp)) ?_
  simp only [Act.put, List.setIfInBounds_toArray, List.set_cons_succ, List.set_cons_zero]
  refine anyU_takeD (i := 10) (v := .string st) 16 rfl rfl (by kernel_rfl) (by kernel_rfl) (by kernel_rfl) (fun _ _ _ h => h) (by kernel_rfl) (Ext.stable _) hCD (yieldsU_val rfl (fun u hu => by have hc := conv_srcW (ZW.out.below hu); rw [HST.out] at hc; go_simp)) ?_
  refine anyU_takeD (i := 11) (v := .agg #[.int .i64 2, .int .i64 0, .string st, .slice none 0 0]) 17 rfl rfl (by kernel_rfl) (by kernel_rfl) (by kernel_rfl) (fun _ _ _ h => h) (by kernel_rfl) (Ext.stable _) hCD (yieldsU_val rfl (fun u hu => by go_simp)) ?_
  simp only [Act.put, List.setIfInBounds_toArray, List.set_cons_succ, List.set_cons_zero]
  refine anyU_one 12 1 _ rfl rfl (by kernel_rfl) ?_
  intro u1 hu
  go_wp2_with fail
  change ∃ C' : World → Prop, _ ∧ _ ∧ _ ∧ anyU _ _ _ _ _ _ 1 _ _ _
  have Z1 := Lib.hid (Blk.new u1 #[.int .i64 1, .int .i64 pt, .string ⟨#[]⟩, .slice none 0 0, .int .i64 1, .int .i64 key, .string ⟨#[]⟩, .slice none 0 0, .int .i64 2, .int .i64 0, .string st, .slice none 0 0] 53)
  have E1 := Lib.hid (Ext.trans hu (bel_alloc1 u1 (.cells #[.int .i64 1, .int .i64 pt, .string ⟨#[]⟩, .slice none 0 0, .int .i64 1, .int .i64 key, .string ⟨#[]⟩, .slice none 0 0, .int .i64 2, .int .i64 0, .string st, .slice none 0 0] 53)))
  generalize World.alloc u1 _ = u2 at Z1 E1 ⊢
  generalize u1.heap.size = bb at Z1 ⊢
  clear hu
  refine anchorF (fun z => Ext W z ∧ Blk z bb #[.int .i64 1, .int .i64 pt, .string ⟨#[]⟩, .slice none 0 0, .int .i64 1, .int .i64 key, .string ⟨#[]⟩, .slice none 0 0, .int .i64 2, .int .i64 0, .string st, .slice none 0 0] 53) (fun z hz => hz.1) ((Ext.stable W).and (fun z z' h k => h.below k h.lt)) ⟨E1.out, Z1.out⟩ ?_
  (try simp only [Act.put])
  refine anyU_tail 13 [] rfl rfl (by decide) (by kernel_rfl) ?_
  intro u3 hu3
  simp only [Act.put, List.filterMap_cons, List.filterMap_nil, List.getElem?_cons_succ, List.getElem?_cons_zero]
  have X3 := Lib.hid hu3.2
  have B3 := Lib.hid (bel_trans EW.out hu3.1)
  clear hu3
  go_wp2_with (first
    | (go_at_call 23; refine (enc3B pt key bs st u3 bb HST.out HPB.out HKB.out hs X3).mono ?_; rintro e u4 ⟨v4, rfl, o4, hb⟩; have O4 := Lib.hid o4; have B4 := Lib.hid (bel_trans B3.out hb); clear o4 hb)
    | (go_at_call 97; refine (hash_own _ tSign _ _ v4 u4 strSign O4 (Lib.hid (ok3 HPB.out HKB.out hs.out)) (by simp) (by rw [lenA3]; have := hs.out.1; omega) (by decide) (Lib.hid (hk.out.below B4.out)) h hh).mono ?_; rintro e u5 ⟨rfl, hb⟩; have B5 := Lib.hid (bel_trans B4.out hb); clear hb))
  go_ret
  exact ⟨rfl, B5.out⟩
set_option maxHeartbeats 400000 in
theorem begin_no (n : Int) (w : World) (h : Hid (secB n = false)) : Calls Tryz.prog 48 #[.int .i64 n] w fun e w' => e = .returned (.tuple #[.int .i64 0, .int .i64 110]) ∧ Below w.heap.size w w' := by
  go_enter Tryz.func48, Tryz.ntmps48
  go_wp2_with (go_at_call 80; refine (bInRange_any n false _ h.out).mono ?_; rintro e w' ⟨rfl, rfl⟩)
  go_ret2
  exact ⟨rfl, Below.refl _ _⟩
set_option maxHeartbeats 400000 in
theorem begin_yes (n r : Int) (w : World) (h : Hid (secB n = true)) (hr : Hid (IsPw 4 n r)) : Calls Tryz.prog 48 #[.int .i64 n] w fun e w' => e = .returned (.tuple #[.int .i64 r, .int .i64 0]) ∧ Below w.heap.size w w' := by
  go_enter Tryz.func48, Tryz.ntmps48
  go_wp2_with (first
    | (go_at_call 80; refine (bInRange_any n true _ h.out).mono ?_; rintro e w' ⟨rfl, rfl⟩)
    | (go_at_call 57; refine (bpow_is 4 n r _ hr).mono ?_; rintro e w1 ⟨rfl, hb⟩))
  go_ret2
  exact ⟨rfl, hb⟩
set_option maxHeartbeats 400000 in
theorem answer_no (x n k : Int) (w : World) (h : Hid ((secB x && secB n) = false)) : Calls Tryz.prog 49 #[.int .i64 x, .int .i64 n, .int .i64 k] w fun e w' => e = .returned (.tuple #[.int .i64 0, .int .i64 110]) ∧ Below w.heap.size w w' := by
  cases h1 : secB x with
  | false =>
    have H1 := Lib.hid h1
    clear h1
    go_enter Tryz.func49, Tryz.ntmps49
    go_wp2_with (go_at_call 80; refine (bInRange_any x false _ H1.out).mono ?_; rintro e w' ⟨rfl, rfl⟩)
    go_ret2
    exact ⟨rfl, Below.refl _ _⟩
  | true =>
    have H1 := Lib.hid h1
    have H2 := Lib.hid (show secB n = false by have := h.out; rw [h1] at this; exact this)
    clear h1
    go_enter Tryz.func49, Tryz.ntmps49
    go_wp2_with (first
      | (go_at_call 80; ((with_reducible refine (bInRange_any x true _ H1.out).mono ?_); rintro e w' ⟨rfl, rfl⟩))
      | (go_at_call 80; ((with_reducible refine (bInRange_any n false _ H2.out).mono ?_); rintro e w' ⟨rfl, rfl⟩)))
    go_ret2
    exact ⟨rfl, Below.refl _ _⟩
set_option maxHeartbeats 400000 in
theorem answer_yes (x n k y s : Int) (w : World) (h1 : Hid (secB x = true)) (h2 : Hid (secB n = true)) (hy : Hid (modQ (k * x) = y)) (hs : Hid (modQ (n + y) = s)) : Calls Tryz.prog 49 #[.int .i64 x, .int .i64 n, .int .i64 k] w fun e w' => e = .returned (.tuple #[.int .i64 s, .int .i64 0]) ∧ Below w.heap.size w w' := by
  go_enter Tryz.func49, Tryz.ntmps49
  go_wp2_with (first
    | (go_at_call 80; ((with_reducible refine (bInRange_any x true _ h1.out).mono ?_); rintro e w' ⟨rfl, rfl⟩))
    | (go_at_call 80; ((with_reducible refine (bInRange_any n true _ h2.out).mono ?_); rintro e w' ⟨rfl, rfl⟩))
    | (go_at_call 81; refine (btimes_is k x y _ hy).mono ?_; rintro e w' ⟨rfl, rfl⟩)
    | (go_at_call 68; refine (bplus_is n y s _ hs).mono ?_; rintro e w' ⟨rfl, rfl⟩))
  go_ret2
  exact ⟨rfl, Below.refl _ _⟩
set_option maxRecDepth 100000 in
set_option maxHeartbeats 1000000 in
theorem ask_no (key r u v : Int) (p : Option Addr) (m c : Nat) (w : World) (h : Hid ((elB key && elB r) = false)) : Calls Tryz.prog 32 #[.int .i64 key, .int .i64 r, .slice p m c, .int .i64 u, .int .i64 v] w fun e w' => e = .returned (.tuple #[.int .i64 0, .int .i64 90]) ∧ Below w.heap.size w w' := by
  have V := Blk.new w #[.int .i64 key, .int .i64 r, .int .i64 u, .int .i64 v, .slice p m c] 99
  have c0 := V.cell 0
  have c1 := V.cell 1
  have c2 := V.cell 2
  have c3 := V.cell 3
  clear V
  go_enter Tryz.func32, Tryz.ntmps32
  go_wp2_with (go_at_call 67; refine (right_any key r u v false _ h).mono ?_; rintro e w1 ⟨rfl, hb⟩)
  go_ret2
  exact ⟨rfl, bel_trans (bel_alloc1 w _) hb⟩
set_option maxRecDepth 100000 in
set_option maxHeartbeats 2000000 in
theorem ask_yes (key r u v pt h a : Int) (p : Option Addr) (m c : Nat) (bs : List Int) (w : World) (hkey : Hid (elB key = true)) (hr : Hid (elB r = true)) (hs : Hid (txOk bs)) (hz : Hid (SrcW w p m c bs)) (hk : Hid (KeysAt w)) (hp : Hid (IsBp key r u v pt)) (hh : Hid (IsCh pt key bs h)) (ha : Hid (modQ (h + v) = a)) :
    Calls Tryz.prog 32 #[.int .i64 key, .int .i64 r, .slice p m c, .int .i64 u, .int .i64 v] w fun e w' => e = .returned (.tuple #[.int .i64 a, .int .i64 0]) ∧ Below w.heap.size w w' := by
  have V := Blk.new w #[.int .i64 key, .int .i64 r, .int .i64 u, .int .i64 v, .slice p m c] 99
  have HV := Lib.hid V
  have c0 := V.cell 0
  have c1 := V.cell 1
  have c2 := V.cell 2
  have c3 := V.cell 3
  have B1 := Lib.hid (bel_alloc1 w (.cells #[.int .i64 key, .int .i64 r, .int .i64 u, .int .i64 v, .slice p m c] 99))
  clear V
  have HR := Lib.hid (show (elB key && elB r) = true by rw [hkey.out, hr.out]; rfl)
  go_enter Tryz.func32, Tryz.ntmps32
  go_wp2_with (first
    | (go_at_call 67; refine (right_any key r u v true _ HR).mono ?_; rintro e w1 ⟨rfl, hb⟩; have V1 := HV.out.below hb HV.out.lt; replace c0 := V1.cell 0; replace c1 := V1.cell 1; replace c2 := V1.cell 2; replace c3 := V1.cell 3; have c4 := V1.cell 4; have B2 := Lib.hid (bel_trans B1.out hb); clear hb V1)
    | (go_at_call 69; refine (bhash_is key r u v pt h p m c bs _ hkey hr hs (Lib.hid (hz.out.below B2.out)) (Lib.hid (hk.out.below B2.out)) hp hh).mono ?_; rintro e w2 ⟨rfl, hb⟩; have B3 := Lib.hid (bel_trans B2.out hb); clear hb)
    | (go_at_call 68; refine (bplus_is h v a _ ha).mono ?_; rintro e w' ⟨rfl, rfl⟩))
  go_ret2
  exact ⟨rfl, B3.out⟩
end Go.Proofs.YtjdkdhpippapmaaGreatDoor
namespace Go.Proofs.YtjdkdhpippapmaaGreatDoor
open Go.RowKit
set_option linter.unusedVariables false
set_option linter.unusedSimpArgs false

theorem rvalid_is (x : Int) (v : Bool) (w : World) (h : Hid (elB x = v)) : Calls Tryz.prog 53 #[.int .i64 x] w fun e w' => e = .returned (.bool v) ∧ w = w' := by
  rw [← h.out]; exact rvalid_any x w
theorem rpow_is (a n r : Int) (w : World) (h : Hid (IsPw a n r)) (ha : Hid (IsPe a 0)) : Calls Tryz.prog 90 #[.int .i64 a, .int .i64 n] w fun e w' => e = .returned (.tuple #[.int .i64 r, .int .i64 0]) ∧ w = w' := by
  rw [← h.out.eq, ← ha.out.eq]; exact rPow_any a n w
theorem rmul_is (a b r : Int) (w : World) (h : Hid (IsMl a b r)) (ha : elB a = true) (hb : elB b = true) : Calls Tryz.prog 91 #[.int .i64 a, .int .i64 b] w fun e w' => e = .returned (.tuple #[.int .i64 r, .int .i64 0]) ∧ w = w' := by
  have h2 : mulE a b = 0 := mulE_el ha hb
  rw [← h.out.eq, ← h2]; exact rMul_any a b w
/-- is it a transcript? x and z are the two sides -/
structure IsSides (key r c s x z : Int) : Prop where
  l : powZ 4 s = x
  r : mulZ r (powZ key c) = z
theorem isSides (key r c s : Int) : ∃ x z, IsSides key r c s x z := ⟨_, _, rfl, rfl⟩
set_option maxRecDepth 100000 in
set_option maxHeartbeats 2000000 in
theorem finish_no (key r u v s : Int) (p : Option Addr) (m c : Nat) (w : World) (h : Hid ((elB key && elB r) = false)) : Calls Tryz.prog 35 #[.int .i64 key, .int .i64 r, .slice p m c, .int .i64 u, .int .i64 v, .int .i64 s] w fun e w' => e = .returned (.tuple #[.agg #[.int .i64 0, .int .i64 0], .int .i64 90]) ∧ Below w.heap.size w w' := by
  have A0 := Lib.hid ((Blk.new w #[.int .i64 0, .int .i64 0] 25).alloc (.cells #[.int .i64 key, .int .i64 r, .int .i64 u, .int .i64 v, .slice p m c] 99))
  have B0 := Lib.hid (show Below w.heap.size w ((w.alloc (.cells #[.int .i64 0, .int .i64 0] 25)).alloc (.cells #[.int .i64 key, .int .i64 r, .int .i64 u, .int .i64 v, .slice p m c] 99)) from (bel_alloc1 w _).alloc (by simp) _)
  go_enter Tryz.func35, Tryz.ntmps35
  go_wp2_with (go_at_call 67; refine (right_any key r u v false _ h).mono ?_; rintro e w1 ⟨rfl, hb⟩; have A1 := A0.out.below hb A0.out.lt; have q0 := A1.cell 0; have q1 := A1.cell 1; have g0 := A1.frozen 0; have g1 := A1.frozen 1; have B1 := Lib.hid (bel_trans B0.out hb); have A1H := Lib.hid A1; clear A1 hb)
  have VV : Blk _ w.heap.size #[.int .i64 0, .int .i64 0] 25 := (A1H.out.set 0 (.int .i64 0)).set 1 (.int .i64 0)
  have c0 := VV.cell 0
  have c1 := VV.cell 1
  refine bodyPost_ret (v := .tuple #[.agg #[.int .i64 0, .int .i64 0], .int .i64 90]) (by simp only [results, Tryz.results35]; simp [go_sem, c0, c1]) rfl ⟨rfl, ?_⟩
  repeat refine Below.setCell ?_ (by simp) _
  exact B1.out
set_option maxRecDepth 100000 in
set_option maxHeartbeats 4000000 in
theorem finish_bad (key r u v s pt h S : Int) (p : Option Addr) (m c : Nat) (bs : List Int) (w : World) (hkey : Hid (elB key = true)) (hr : Hid (elB r = true)) (hs : Hid (txOk bs)) (hz : Hid (SrcW w p m c bs)) (hk : Hid (KeysAt w)) (hp : Hid (IsBp key r u v pt)) (hh : Hid (IsCh pt key bs h)) (hS : Hid (modQ (s + u) = S)) (hv : Hid (IsVer key bs h S false)) :
    Calls Tryz.prog 35 #[.int .i64 key, .int .i64 r, .slice p m c, .int .i64 u, .int .i64 v, .int .i64 s] w fun e w' => e = .returned (.tuple #[.agg #[.int .i64 0, .int .i64 0], .int .i64 150]) ∧ Below w.heap.size w w' := by
  have A0 := Lib.hid ((Blk.new w #[.int .i64 0, .int .i64 0] 25).alloc (.cells #[.int .i64 key, .int .i64 r, .int .i64 u, .int .i64 v, .slice p m c] 99))
  have D0 := Lib.hid (show Blk ((w.alloc (.cells #[.int .i64 0, .int .i64 0] 25)).alloc (.cells #[.int .i64 key, .int .i64 r, .int .i64 u, .int .i64 v, .slice p m c] 99)) (w.heap.size + 1) #[.int .i64 key, .int .i64 r, .int .i64 u, .int .i64 v, .slice p m c] 99 by have := Blk.new (w.alloc (.cells #[.int .i64 0, .int .i64 0] 25)) #[.int .i64 key, .int .i64 r, .int .i64 u, .int .i64 v, .slice p m c] 99; simpa using this)
  have B0 := Lib.hid (show Below w.heap.size w ((w.alloc (.cells #[.int .i64 0, .int .i64 0] 25)).alloc (.cells #[.int .i64 key, .int .i64 r, .int .i64 u, .int .i64 v, .slice p m c] 99)) from (bel_alloc1 w _).alloc (by simp) _)
  have HR := Lib.hid (show (elB key && elB r) = true by rw [hkey.out, hr.out]; rfl)
  go_enter Tryz.func35, Tryz.ntmps35
  go_upto_region 5 with (first
    | (go_at_call 67; refine (right_any key r u v true _ HR).mono ?_; rintro e w1 ⟨rfl, hb⟩; have D1 := D0.out.below hb D0.out.lt; have q0 := D1.cell 0; have q1 := D1.cell 1; have q2 := D1.cell 2; have q3 := D1.cell 3; have q4 := D1.cell 4; have A1 := Lib.hid (A0.out.below hb A0.out.lt); have B1 := Lib.hid (bel_trans B0.out hb); clear hb D1)
    | (go_at_call 69; refine (bhash_is key r u v pt h p m c bs _ hkey hr hs (Lib.hid (hz.out.below B1.out)) (Lib.hid (hk.out.below B1.out)) hp hh).mono ?_; rintro e w2 ⟨rfl, hb⟩; have A2 := A1.out.below hb A1.out.lt; have g0 := A2.cell 0; have g1 := A2.cell 1; have f0 := A2.frozen 0; have f1 := A2.frozen 1; have A2H := Lib.hid A2; have B2 := Lib.hid (bel_trans B1.out hb); clear hb q0 q1 q2 q3 q4 A2)
    | (go_at_call 68; refine (bplus_is s u S _ hS).mono ?_; rintro e w' ⟨rfl, rfl⟩))
  have A3 := (A2H.out.set 0 (.int .i64 h)).set 1 (.int .i64 S)
  have A3H := Lib.hid (show Blk _ w.heap.size #[.int .i64 h, .int .i64 S] 25 from A3)
  have B3 := Lib.hid ((B2.out.setCell (p := ⟨w.heap.size, 0, none⟩) (by simp) (.int .i64 h)).setCell (p := ⟨w.heap.size, 1, none⟩) (by simp) (.int .i64 S))
  clear A3 g0 g1 f0 f1
  generalize World.setCell (World.setCell w2 _ _) _ _ = W3 at *
  have q0 := A3H.out.cell 0
  have q1 := A3H.out.cell 1
  go_wp2_with (go_at_call 37; refine (verify_is key h S p m c bs _ hs (Lib.hid (hz.out.below B3.out)) (Lib.hid (hk.out.below B3.out)) false hv).mono ?_; rintro e w4 ⟨rfl, hb⟩; have A4 := A3H.out.below hb A3H.out.lt; replace q0 := A4.cell 0; replace q1 := A4.cell 1; have g0 := A4.frozen 0; have g1 := A4.frozen 1; have A4H := Lib.hid A4; have B4 := Lib.hid (bel_trans B3.out hb); clear hb A4)
  have VV : Blk _ w.heap.size #[.int .i64 0, .int .i64 0] 25 := (A4H.out.set 0 (.int .i64 0)).set 1 (.int .i64 0)
  have c0 := VV.cell 0
  have c1 := VV.cell 1
  refine bodyPost_ret (v := .tuple #[.agg #[.int .i64 0, .int .i64 0], .int .i64 150]) (by simp only [results, Tryz.results35]; simp [go_sem, c0, c1]) rfl ⟨rfl, ?_⟩
  repeat refine Below.setCell ?_ (by simp) _
  exact B4.out
set_option maxRecDepth 100000 in
set_option maxHeartbeats 4000000 in
theorem finish_yes (key r u v s pt h S : Int) (p : Option Addr) (m c : Nat) (bs : List Int) (w : World) (hkey : Hid (elB key = true)) (hr : Hid (elB r = true)) (hs : Hid (txOk bs)) (hz : Hid (SrcW w p m c bs)) (hk : Hid (KeysAt w)) (hp : Hid (IsBp key r u v pt)) (hh : Hid (IsCh pt key bs h)) (hS : Hid (modQ (s + u) = S)) (hv : Hid (IsVer key bs h S true)) :
    Calls Tryz.prog 35 #[.int .i64 key, .int .i64 r, .slice p m c, .int .i64 u, .int .i64 v, .int .i64 s] w fun e w' => e = .returned (.tuple #[.agg #[.int .i64 h, .int .i64 S], .int .i64 0]) ∧ Below w.heap.size w w' := by
  have A0 := Lib.hid ((Blk.new w #[.int .i64 0, .int .i64 0] 25).alloc (.cells #[.int .i64 key, .int .i64 r, .int .i64 u, .int .i64 v, .slice p m c] 99))
  have D0 := Lib.hid (show Blk ((w.alloc (.cells #[.int .i64 0, .int .i64 0] 25)).alloc (.cells #[.int .i64 key, .int .i64 r, .int .i64 u, .int .i64 v, .slice p m c] 99)) (w.heap.size + 1) #[.int .i64 key, .int .i64 r, .int .i64 u, .int .i64 v, .slice p m c] 99 by have := Blk.new (w.alloc (.cells #[.int .i64 0, .int .i64 0] 25)) #[.int .i64 key, .int .i64 r, .int .i64 u, .int .i64 v, .slice p m c] 99; simpa using this)
  have B0 := Lib.hid (show Below w.heap.size w ((w.alloc (.cells #[.int .i64 0, .int .i64 0] 25)).alloc (.cells #[.int .i64 key, .int .i64 r, .int .i64 u, .int .i64 v, .slice p m c] 99)) from (bel_alloc1 w _).alloc (by simp) _)
  have HR := Lib.hid (show (elB key && elB r) = true by rw [hkey.out, hr.out]; rfl)
  go_enter Tryz.func35, Tryz.ntmps35
  go_upto_region 5 with (first
    | (go_at_call 67; refine (right_any key r u v true _ HR).mono ?_; rintro e w1 ⟨rfl, hb⟩; have D1 := D0.out.below hb D0.out.lt; have q0 := D1.cell 0; have q1 := D1.cell 1; have q2 := D1.cell 2; have q3 := D1.cell 3; have q4 := D1.cell 4; have A1 := Lib.hid (A0.out.below hb A0.out.lt); have B1 := Lib.hid (bel_trans B0.out hb); clear hb D1)
    | (go_at_call 69; refine (bhash_is key r u v pt h p m c bs _ hkey hr hs (Lib.hid (hz.out.below B1.out)) (Lib.hid (hk.out.below B1.out)) hp hh).mono ?_; rintro e w2 ⟨rfl, hb⟩; have A2 := A1.out.below hb A1.out.lt; have g0 := A2.cell 0; have g1 := A2.cell 1; have f0 := A2.frozen 0; have f1 := A2.frozen 1; have A2H := Lib.hid A2; have B2 := Lib.hid (bel_trans B1.out hb); clear hb q0 q1 q2 q3 q4 A2)
    | (go_at_call 68; refine (bplus_is s u S _ hS).mono ?_; rintro e w' ⟨rfl, rfl⟩))
  have A3 := (A2H.out.set 0 (.int .i64 h)).set 1 (.int .i64 S)
  have A3H := Lib.hid (show Blk _ w.heap.size #[.int .i64 h, .int .i64 S] 25 from A3)
  have B3 := Lib.hid ((B2.out.setCell (p := ⟨w.heap.size, 0, none⟩) (by simp) (.int .i64 h)).setCell (p := ⟨w.heap.size, 1, none⟩) (by simp) (.int .i64 S))
  clear A3 g0 g1 f0 f1
  generalize World.setCell (World.setCell w2 _ _) _ _ = W3 at *
  have q0 := A3H.out.cell 0
  have q1 := A3H.out.cell 1
  go_wp2_with (go_at_call 37; refine (verify_is key h S p m c bs _ hs (Lib.hid (hz.out.below B3.out)) (Lib.hid (hk.out.below B3.out)) true hv).mono ?_; rintro e w4 ⟨rfl, hb⟩; have A4 := A3H.out.below hb A3H.out.lt; replace q0 := A4.cell 0; replace q1 := A4.cell 1; have g0 := A4.frozen 0; have g1 := A4.frozen 1; have A4H := Lib.hid A4; have B4 := Lib.hid (bel_trans B3.out hb); clear hb A4)
  have VV : Blk _ w.heap.size #[.int .i64 h, .int .i64 S] 25 := (A4H.out.set 0 (.int .i64 h)).set 1 (.int .i64 S)
  have c0 := VV.cell 0
  have c1 := VV.cell 1
  refine bodyPost_ret (v := .tuple #[.agg #[.int .i64 h, .int .i64 S], .int .i64 0]) (by simp only [results, Tryz.results35]; simp [go_sem, c0, c1]) rfl ⟨rfl, ?_⟩
  repeat refine Below.setCell ?_ (by simp) _
  exact B4.out
end Go.Proofs.YtjdkdhpippapmaaGreatDoor
namespace Go.Proofs.YtjdkdhpippapmaaGreatDoor
open Go.RowKit
set_option linter.unusedVariables false
set_option linter.unusedSimpArgs false

set_option maxRecDepth 100000 in
set_option maxHeartbeats 4000000 in
theorem link_bad (key r c s e S : Int) (p : Option Addr) (m cp : Nat) (bs : List Int) (w : World) (h : Hid ((elB key && elB r) = false)) :
    Calls Tryz.prog 25 #[.int .i64 key, .int .i64 r, .int .i64 c, .int .i64 s, .slice p m cp, .agg #[.int .i64 e, .int .i64 S]] w fun q w' => q = .returned (.tuple #[.int .i64 0, .int .i64 0, .bool false]) ∧ Below w.heap.size w w' := by
  have HALL := Lib.hid (show [key, r].all elB = false by rw [← h.out]; simp)
  have V0 := Lib.hid ((Blk.new w #[.int .i64 e, .int .i64 S] 25).alloc (.cells #[.int .i64 key, .int .i64 r] 3))
  have I0 := Lib.hid (show Blk ((w.alloc (.cells #[.int .i64 e, .int .i64 S] 25)).alloc (.cells #[.int .i64 key, .int .i64 r] 3)) (w.heap.size + 1) (([key, r] : List Int).map (Value.int .i64)).toArray 3 by have := Blk.new (w.alloc (.cells #[.int .i64 e, .int .i64 S] 25)) #[.int .i64 key, .int .i64 r] 3; simpa using this)
  have B0 := Lib.hid (show Below w.heap.size w ((w.alloc (.cells #[.int .i64 e, .int .i64 S] 25)).alloc (.cells #[.int .i64 key, .int .i64 r] 3)) from (bel_alloc1 w _).alloc (by simp) _)
  go_enter Tryz.func25, Tryz.ntmps25
  go_wp2_with (first
    | (go_at_call 56; refine (belements_any (w.heap.size + 1) 0 2 2 [key, r] _ rfl (by omega) (fun j hj => ints_blk (zs := [key, r]) I0.out j hj)).mono ?_; rintro q w1 ⟨rfl, rfl⟩; rw [HALL.out]))
  exact bodyPost_ret (v := .tuple #[.int .i64 0, .int .i64 0, .bool false]) (by simp [results, Tryz.results25, go_sem]) rfl ⟨rfl, B0.out⟩
set_option maxRecDepth 100000 in
set_option maxHeartbeats 4000000 in
theorem link_differ (key r c s e S : Int) (p : Option Addr) (m cp : Nat) (bs : List Int) (w : World) (hkey : Hid (elB key = true)) (hr : Hid (elB r = true)) (x z : Int) (hsd : Hid (IsSides key r c s x z)) (hxz : (x != z) = true) :
    Calls Tryz.prog 25 #[.int .i64 key, .int .i64 r, .int .i64 c, .int .i64 s, .slice p m cp, .agg #[.int .i64 e, .int .i64 S]] w fun q w' => q = .returned (.tuple #[.int .i64 0, .int .i64 0, .bool false]) ∧ Below w.heap.size w w' := by
  have HALL := Lib.hid (show [key, r].all elB = true by simp [hkey.out, hr.out])
  obtain ⟨y, hy⟩ := isPw key c
  have h2 := hsd.out.r
  rw [hy.eq, ← prod2 hr.out] at h2
  have HX := Lib.hid (show IsPw 4 s x from ⟨hsd.out.l⟩); have HY := Lib.hid hy; have HPR := Lib.hid (IsPr.mk h2)
  clear hy h2
  have V0 := Lib.hid ((Blk.new w #[.int .i64 e, .int .i64 S] 25).alloc (.cells #[.int .i64 key, .int .i64 r] 3))
  have I0 := Lib.hid (show Blk ((w.alloc (.cells #[.int .i64 e, .int .i64 S] 25)).alloc (.cells #[.int .i64 key, .int .i64 r] 3)) (w.heap.size + 1) (([key, r] : List Int).map (Value.int .i64)).toArray 3 by have := Blk.new (w.alloc (.cells #[.int .i64 e, .int .i64 S] 25)) #[.int .i64 key, .int .i64 r] 3; simpa using this)
  have B0 := Lib.hid (show Below w.heap.size w ((w.alloc (.cells #[.int .i64 e, .int .i64 S] 25)).alloc (.cells #[.int .i64 key, .int .i64 r] 3)) from (bel_alloc1 w _).alloc (by simp) _)
  go_enter Tryz.func25, Tryz.ntmps25
  go_wp2_with (first
    | (go_at_call 56; refine (belements_any (w.heap.size + 1) 0 2 2 [key, r] _ rfl (by omega) (fun j hj => ints_blk (zs := [key, r]) I0.out j hj)).mono ?_; rintro q w1 ⟨rfl, rfl⟩; rw [HALL.out])
    | (go_at_call 57; ((with_reducible refine (bpow_is 4 s x _ HX).mono ?_); rintro q w2 ⟨rfl, hb⟩; have V2 := Lib.hid (V0.out.below hb V0.out.lt); have B2 := Lib.hid (bel_trans B0.out hb); clear hb))
    | (go_at_call 57; ((with_reducible refine (bpow_is key c y _ HY).mono ?_); rintro q w3 ⟨rfl, hb⟩; have V3 := Lib.hid (V2.out.below hb V2.out.lt); have B3 := Lib.hid (bel_trans B2.out hb); clear hb))
    | (go_at_call 58; refine (bproduct_any w3.heap.size 0 2 2 [r, y] _ rfl (by omega) (by simp) (fun j hj => ints_blk (zs := [r, y]) (Blk.new w3 _ _) j hj) z HPR).mono ?_; rintro q w4 ⟨rfl, hb⟩; have V4 := ((V3.out.alloc _).below hb (V3.out.alloc _).lt); have c0 := V4.cell 0; have c1 := V4.cell 1; have V4H := Lib.hid V4; have B4 := Lib.hid (bel_trans (bel_trans B3.out (bel_alloc1 w3 _)) hb); clear hb V4))
  exact bodyPost_ret (v := .tuple #[.int .i64 0, .int .i64 0, .bool false]) (by simp [results, Tryz.results25, go_sem]) rfl ⟨rfl, B4.out⟩
set_option maxRecDepth 100000 in
set_option maxHeartbeats 4000000 in
theorem link_wrong (key r c s e S : Int) (p : Option Addr) (m cp : Nat) (bs : List Int) (w : World) (hkey : Hid (elB key = true)) (hr : Hid (elB r = true)) (x z : Int) (hsd : Hid (IsSides key r c s x z)) (hxz : (x != z) = false) (hs : Hid (txOk bs)) (hz : Hid (SrcW w p m cp bs)) (hk : Hid (KeysAt w)) (hv : Hid (IsVer key bs e S false)) :
    Calls Tryz.prog 25 #[.int .i64 key, .int .i64 r, .int .i64 c, .int .i64 s, .slice p m cp, .agg #[.int .i64 e, .int .i64 S]] w fun q w' => q = .returned (.tuple #[.int .i64 0, .int .i64 0, .bool false]) ∧ Below w.heap.size w w' := by
  have HALL := Lib.hid (show [key, r].all elB = true by simp [hkey.out, hr.out])
  obtain ⟨y, hy⟩ := isPw key c
  have h2 := hsd.out.r
  rw [hy.eq, ← prod2 hr.out] at h2
  have HX := Lib.hid (show IsPw 4 s x from ⟨hsd.out.l⟩); have HY := Lib.hid hy; have HPR := Lib.hid (IsPr.mk h2)
  clear hy h2
  have V0 := Lib.hid ((Blk.new w #[.int .i64 e, .int .i64 S] 25).alloc (.cells #[.int .i64 key, .int .i64 r] 3))
  have I0 := Lib.hid (show Blk ((w.alloc (.cells #[.int .i64 e, .int .i64 S] 25)).alloc (.cells #[.int .i64 key, .int .i64 r] 3)) (w.heap.size + 1) (([key, r] : List Int).map (Value.int .i64)).toArray 3 by have := Blk.new (w.alloc (.cells #[.int .i64 e, .int .i64 S] 25)) #[.int .i64 key, .int .i64 r] 3; simpa using this)
  have B0 := Lib.hid (show Below w.heap.size w ((w.alloc (.cells #[.int .i64 e, .int .i64 S] 25)).alloc (.cells #[.int .i64 key, .int .i64 r] 3)) from (bel_alloc1 w _).alloc (by simp) _)
  go_enter Tryz.func25, Tryz.ntmps25
  go_wp2_with (first
    | (go_at_call 56; refine (belements_any (w.heap.size + 1) 0 2 2 [key, r] _ rfl (by omega) (fun j hj => ints_blk (zs := [key, r]) I0.out j hj)).mono ?_; rintro q w1 ⟨rfl, rfl⟩; rw [HALL.out])
    | (go_at_call 57; ((with_reducible refine (bpow_is 4 s x _ HX).mono ?_); rintro q w2 ⟨rfl, hb⟩; have V2 := Lib.hid (V0.out.below hb V0.out.lt); have B2 := Lib.hid (bel_trans B0.out hb); clear hb))
    | (go_at_call 57; ((with_reducible refine (bpow_is key c y _ HY).mono ?_); rintro q w3 ⟨rfl, hb⟩; have V3 := Lib.hid (V2.out.below hb V2.out.lt); have B3 := Lib.hid (bel_trans B2.out hb); clear hb))
    | (go_at_call 58; refine (bproduct_any w3.heap.size 0 2 2 [r, y] _ rfl (by omega) (by simp) (fun j hj => ints_blk (zs := [r, y]) (Blk.new w3 _ _) j hj) z HPR).mono ?_; rintro q w4 ⟨rfl, hb⟩; have V4 := ((V3.out.alloc _).below hb (V3.out.alloc _).lt); have c0 := V4.cell 0; have c1 := V4.cell 1; have V4H := Lib.hid V4; have B4 := Lib.hid (bel_trans (bel_trans B3.out (bel_alloc1 w3 _)) hb); clear hb V4)
    | (go_at_call 37; refine (verify_is key e S p m cp bs w4 hs (Lib.hid (hz.out.below B4.out)) (Lib.hid (hk.out.below B4.out)) false hv).mono ?_; rintro q w5 ⟨rfl, hb⟩; have V5 := Lib.hid (V4H.out.below hb V4H.out.lt); have B5 := Lib.hid (bel_trans B4.out hb); clear hb))
  exact bodyPost_ret (v := .tuple #[.int .i64 0, .int .i64 0, .bool false]) (by simp [results, Tryz.results25, go_sem]) rfl ⟨rfl, B5.out⟩
set_option maxRecDepth 100000 in
set_option maxHeartbeats 4000000 in
theorem link_yes (key r c s e S : Int) (p : Option Addr) (m cp : Nat) (bs : List Int) (w : World) (hkey : Hid (elB key = true)) (hr : Hid (elB r = true)) (x z : Int) (hsd : Hid (IsSides key r c s x z)) (hxz : (x != z) = false) (hs : Hid (txOk bs)) (hz : Hid (SrcW w p m cp bs)) (hk : Hid (KeysAt w)) (hv : Hid (IsVer key bs e S true)) (U V : Int) (hU : Hid (modQ (S - s) = U)) (hV : Hid (modQ (c - e) = V)) :
    Calls Tryz.prog 25 #[.int .i64 key, .int .i64 r, .int .i64 c, .int .i64 s, .slice p m cp, .agg #[.int .i64 e, .int .i64 S]] w fun q w' => q = .returned (.tuple #[.int .i64 U, .int .i64 V, .bool true]) ∧ Below w.heap.size w w' := by
  have HALL := Lib.hid (show [key, r].all elB = true by simp [hkey.out, hr.out])
  obtain ⟨y, hy⟩ := isPw key c
  have h2 := hsd.out.r
  rw [hy.eq, ← prod2 hr.out] at h2
  have HX := Lib.hid (show IsPw 4 s x from ⟨hsd.out.l⟩); have HY := Lib.hid hy; have HPR := Lib.hid (IsPr.mk h2)
  clear hy h2
  have V0 := Lib.hid ((Blk.new w #[.int .i64 e, .int .i64 S] 25).alloc (.cells #[.int .i64 key, .int .i64 r] 3))
  have I0 := Lib.hid (show Blk ((w.alloc (.cells #[.int .i64 e, .int .i64 S] 25)).alloc (.cells #[.int .i64 key, .int .i64 r] 3)) (w.heap.size + 1) (([key, r] : List Int).map (Value.int .i64)).toArray 3 by have := Blk.new (w.alloc (.cells #[.int .i64 e, .int .i64 S] 25)) #[.int .i64 key, .int .i64 r] 3; simpa using this)
  have B0 := Lib.hid (show Below w.heap.size w ((w.alloc (.cells #[.int .i64 e, .int .i64 S] 25)).alloc (.cells #[.int .i64 key, .int .i64 r] 3)) from (bel_alloc1 w _).alloc (by simp) _)
  go_enter Tryz.func25, Tryz.ntmps25
  go_wp2_with (first
    | (go_at_call 56; refine (belements_any (w.heap.size + 1) 0 2 2 [key, r] _ rfl (by omega) (fun j hj => ints_blk (zs := [key, r]) I0.out j hj)).mono ?_; rintro q w1 ⟨rfl, rfl⟩; rw [HALL.out])
    | (go_at_call 57; ((with_reducible refine (bpow_is 4 s x _ HX).mono ?_); rintro q w2 ⟨rfl, hb⟩; have V2 := Lib.hid (V0.out.below hb V0.out.lt); have B2 := Lib.hid (bel_trans B0.out hb); clear hb))
    | (go_at_call 57; ((with_reducible refine (bpow_is key c y _ HY).mono ?_); rintro q w3 ⟨rfl, hb⟩; have V3 := Lib.hid (V2.out.below hb V2.out.lt); have B3 := Lib.hid (bel_trans B2.out hb); clear hb))
    | (go_at_call 58; refine (bproduct_any w3.heap.size 0 2 2 [r, y] _ rfl (by omega) (by simp) (fun j hj => ints_blk (zs := [r, y]) (Blk.new w3 _ _) j hj) z HPR).mono ?_; rintro q w4 ⟨rfl, hb⟩; have V4 := ((V3.out.alloc _).below hb (V3.out.alloc _).lt); have c0 := V4.cell 0; have c1 := V4.cell 1; have V4H := Lib.hid V4; have B4 := Lib.hid (bel_trans (bel_trans B3.out (bel_alloc1 w3 _)) hb); clear hb V4)
    | (go_at_call 37; refine (verify_is key e S p m cp bs w4 hs (Lib.hid (hz.out.below B4.out)) (Lib.hid (hk.out.below B4.out)) true hv).mono ?_; rintro q w5 ⟨rfl, hb⟩; have V5 := Lib.hid (V4H.out.below hb V4H.out.lt); have B5 := Lib.hid (bel_trans B4.out hb); clear hb))
  refine wp_region_any (by kernel_rfl) ?_
  change wpAny _ _ _ _ _ _ _ (World.drew _)
  generalize hWD : World.drew w5 = W
  have VW := Lib.hid (show Blk W w.heap.size #[.int .i64 e, .int .i64 S] 25 by rw [← hWD]; exact V5.out)
  have BW := Lib.hid (show Below w.heap.size w W by rw [← hWD]; exact B5.out.drew)
  clear hWD V5 B5
  have hCD : ∀ u, Ext W u → Ext W u := fun u hu => hu
  have qm : ∀ (a b r : Int) (u : World), Hid (modQ (a - b) = r) → Calls Tryz.prog 59 #[.int .i64 a, .int .i64 b] u fun e u' => e = .returned (.int .i64 r) ∧ Below u.heap.size u u' := fun a b r u h => (bminus_is a b r u h).mono fun e u' ⟨h1, h2⟩ => ⟨h1, h2 ▸ Below.refl _ _⟩
  have QM := Lib.hid qm
  clear qm
  refine region_U (D := Ext W) (Ext W) [8, 9, 10] (Ext.refl W) ?_
  refine anyU_takeD (i := 0) (v := .pointer (some ⟨w.heap.size, 1, none⟩)) 38 rfl rfl (by kernel_rfl) (by kernel_rfl) (by kernel_rfl) (fun _ _ _ h => h) (by kernel_rfl) (Ext.stable _) hCD (yieldsU_val rfl (fun u hu => by go_simp)) ?_
  refine anyU_takeD (i := 1) (v := .int .i64 S) 39 rfl rfl (by kernel_rfl) (by kernel_rfl) (by kernel_rfl) (fun _ _ _ h => h) (by kernel_rfl) (Ext.stable _) hCD (yieldsU_val rfl (fun u hu => by have cc := (VW.out.below hu VW.out.lt).cell 1; go_simp)) ?_
  refine anyU_takeD (i := 2) (v := .int .i64 s) 40 rfl rfl (by kernel_rfl) (by kernel_rfl) (by kernel_rfl) (fun _ _ _ h => h) (by kernel_rfl) (Ext.stable _) hCD (yieldsU_val rfl (fun u hu => by rfl)) ?_
  simp only [Act.put, List.setIfInBounds_toArray, List.set_cons_succ, List.set_cons_zero]
  refine anyU_takeD (i := 3) (v := .int .i64 U) 41 rfl rfl (by kernel_rfl) (by kernel_rfl) (by kernel_rfl) (fun _ _ _ h => h) (by kernel_rfl) (Ext.stable _) hCD (yieldsU_call rfl 59 _ _ rfl #[.int .i64 S, .int .i64 s] (by simp [Act.eval, Act.put]) (fun u => by go_simp) (fun u hu => QM.out S s U _ hU)) ?_
  simp only [Act.put, List.setIfInBounds_toArray, List.set_cons_succ, List.set_cons_zero]
  refine anyU_takeD (i := 4) (v := .int .i64 c) 42 rfl rfl (by kernel_rfl) (by kernel_rfl) (by kernel_rfl) (fun _ _ _ h => h) (by kernel_rfl) (Ext.stable _) hCD (yieldsU_val rfl (fun u hu => by rfl)) ?_
  refine anyU_takeD (i := 5) (v := .pointer (some ⟨w.heap.size, 0, none⟩)) 43 rfl rfl (by kernel_rfl) (by kernel_rfl) (by kernel_rfl) (fun _ _ _ h => h) (by kernel_rfl) (Ext.stable _) hCD (yieldsU_val rfl (fun u hu => by go_simp)) ?_
  refine anyU_takeD (i := 6) (v := .int .i64 e) 44 rfl rfl (by kernel_rfl) (by kernel_rfl) (by kernel_rfl) (fun _ _ _ h => h) (by kernel_rfl) (Ext.stable _) hCD (yieldsU_val rfl (fun u hu => by have cc := (VW.out.below hu VW.out.lt).cell 0; go_simp)) ?_
  simp only [Act.put, List.setIfInBounds_toArray, List.set_cons_succ, List.set_cons_zero]
  refine anyU_takeD (i := 7) (v := .int .i64 V) 45 rfl rfl (by kernel_rfl) (by kernel_rfl) (by kernel_rfl) (fun _ _ _ h => h) (by kernel_rfl) (Ext.stable _) hCD (yieldsU_call rfl 59 _ _ rfl #[.int .i64 c, .int .i64 e] (by simp [Act.eval, Act.put]) (fun u => by go_simp) (fun u hu => QM.out c e V _ hV)) ?_
  simp only [Act.put, List.setIfInBounds_toArray, List.set_cons_succ, List.set_cons_zero]
  refine anyU_tail 8 [9, 10] rfl rfl (by decide) (by kernel_rfl) ?_
  intro u1 hu
  simp only [Act.put, List.filterMap_cons, List.filterMap_nil, List.getElem?_cons_succ, List.getElem?_cons_zero]
  have BU := Lib.hid (bel_trans BW.out hu)
  clear hu
  go_wp2_with fail
  exact bodyPost_ret (v := .tuple #[.int .i64 U, .int .i64 V, .bool true]) (by simp [results, Tryz.results25, go_sem]) rfl ⟨rfl, BU.out⟩
end Go.Proofs.YtjdkdhpippapmaaGreatDoor
