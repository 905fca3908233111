/- The state takes a block: (*digest.state).absorb. -/
import Derived.Test.YtllcgehfmkmcdaaDoorDigSch
namespace Go.Proofs.YtllcgehfmkmcdaaDoor
open Go.RowKit
set_option linter.unusedVariables false
set_option linter.unusedSimpArgs false

/-- the keys lie where the program's text laid them -/
def KeysAt (w : World) : Prop := 0 < w.heap.size ∧ ∀ j, j < 64 → w.cell? ⟨0, j, none⟩ = some (.int .u32 (kK.getD j 0))
theorem KeysAt.below {w w' : World} (h : KeysAt w) (k : Below w.heap.size w w') : KeysAt w' :=
  ⟨Nat.lt_of_lt_of_le h.1 k.size, fun j hj => (k.cell (p := ⟨0, j, none⟩) h.1).trans (h.2 j hj)⟩

/-- what changes but in one block -/
theorem gr_refl (w : World) (r : Option Nat) : w.grownBy w r := ⟨rfl, rfl, rfl, Nat.le_refl _, fun _ _ _ => rfl⟩
theorem gr_below {w w1 w2 : World} {r : Option Nat} (h : w.grownBy w1 r) (k : Below w1.heap.size w1 w2) : w.grownBy w2 r :=
  ⟨k.os.trans h.os, k.tape.trans h.tape, k.output.trans h.output, Nat.le_trans h.size k.size, fun i hi hn => (k.block i (Nat.lt_of_lt_of_le hi h.size)).trans (h.block i hi hn)⟩
theorem gr_trans {w w1 w2 : World} {b : Nat} (h : w.grownBy w1 (some b)) (k : w1.grownBy w2 (some b)) : w.grownBy w2 (some b) :=
  ⟨k.os.trans h.os, k.tape.trans h.tape, k.output.trans h.output, Nat.le_trans h.size k.size, fun i hi hn => (k.block i (Nat.lt_of_lt_of_le hi h.size) hn).trans (h.block i hi hn)⟩
theorem gr_set {w w1 : World} {b o : Nat} {v : Value} (h : w.grownBy w1 (some b)) : w.grownBy (w1.setCell ⟨b, o, none⟩ v) (some b) :=
  ⟨h.os, h.tape, h.output, by simpa using h.size, fun i hi hn => (Below.heap_setCell w1 ⟨b, o, none⟩ v i (fun e => hn (by rw [e]))).trans (h.block i hi hn)⟩
theorem gr_drew {w w1 : World} {r : Option Nat} (h : w.grownBy w1 r) : w.grownBy w1.drew r := gr_below h (Below.refl _ w1).drew
theorem gr_dn {w w1 : World} {r : Option Nat} (h : w.grownBy w1 r) (n : Nat) : w.grownBy (w1.drewN n) r := gr_below h (bel_dn (Below.refl _ w1) n)
theorem gr_keys {w w1 : World} {b : Nat} (h : w.grownBy w1 (some b)) (k : KeysAt w) (hb : 0 < b) : KeysAt w1 :=
  ⟨Nat.lt_of_lt_of_le k.1 h.size, fun j hj => (World.cell?_of_block (a := ⟨0, j, none⟩) (h.block 0 k.1 (by intro e; injection e; omega))).trans (k.2 j hj)⟩
theorem gr_blk {w w1 : World} {b b' : Nat} {c : Array Value} {t : TypeId} (h : w.grownBy w1 (some b)) (k : Blk w b' c t) (hne : b' ≠ b) : Blk w1 b' c t :=
  (h.block b' k.lt (by intro e; injection e; omega)).trans k
theorem gr_bytes {w w1 : World} {b b' off : Nat} {zs : List Int} (h : w.grownBy w1 (some b)) (k : BytesAt w b' off zs) (hb : b' < w.heap.size) (hne : b' ≠ b) : BytesAt w1 b' off zs :=
  fun j hj => (World.cell?_of_block (a := ⟨b', off + j, none⟩) (h.block b' hb (by intro e; injection e; omega))).trans (k j hj)
theorem gr_setAll {w : World} {b : Nat} (hb : w.heap.size ≤ b) {r : Option Nat} : ∀ (vs : List Value) (o : Nat) {w1 : World}, w.grownBy w1 r → w.grownBy (w1.setCells b o vs) r
  | [], _, _, h => h
  | v :: l, o, w1, h => gr_setAll hb l (o + 1) ⟨h.os, h.tape, h.output, by simpa using h.size, fun i hi hn => (Below.heap_setCell w1 ⟨b, o, none⟩ v i (fun e => by simp at e; omega)).trans (h.block i hi hn)⟩

theorem index8 (a b c d e f g h : Int) (k : Nat) (hk : k < 8) (W : World) :
    (Instr.index 67 (.agg #[.int .u32 a, .int .u32 b, .int .u32 c, .int .u32 d, .int .u32 e, .int .u32 f, .int .u32 g, .int .u32 h]) (.int .i64 k)).run Tryd.prog W = .ok (.int .u32 ([a, b, c, d, e, f, g, h].getD k 0)) W := by
  rcases (by omega : k = 0 ∨ k = 1 ∨ k = 2 ∨ k = 3 ∨ k = 4 ∨ k = 5 ∨ k = 6 ∨ k = 7) with rfl | rfl | rfl | rfl | rfl | rfl | rfl | rfl
  all_goals kernel_rfl
theorem zeros64 (w : World) : Blk (w.alloc (.cells #[.int .u32 0, .int .u32 0, .int .u32 0, .int .u32 0, .int .u32 0, .int .u32 0, .int .u32 0, .int .u32 0, .int .u32 0, .int .u32 0, .int .u32 0, .int .u32 0, .int .u32 0, .int .u32 0, .int .u32 0, .int .u32 0, .int .u32 0, .int .u32 0, .int .u32 0, .int .u32 0, .int .u32 0, .int .u32 0, .int .u32 0, .int .u32 0, .int .u32 0, .int .u32 0, .int .u32 0, .int .u32 0, .int .u32 0, .int .u32 0, .int .u32 0, .int .u32 0, .int .u32 0, .int .u32 0, .int .u32 0, .int .u32 0, .int .u32 0, .int .u32 0, .int .u32 0, .int .u32 0, .int .u32 0, .int .u32 0, .int .u32 0, .int .u32 0, .int .u32 0, .int .u32 0, .int .u32 0, .int .u32 0, .int .u32 0, .int .u32 0, .int .u32 0, .int .u32 0, .int .u32 0, .int .u32 0, .int .u32 0, .int .u32 0, .int .u32 0, .int .u32 0, .int .u32 0, .int .u32 0, .int .u32 0, .int .u32 0, .int .u32 0, .int .u32 0] 78)) w.heap.size (wv (List.replicate 64 0)).toArray 78 := Blk.new w _ _
theorem there64 (w : World) (zs : List Int) (h : zs.length = 64) : (w.alloc (.cells #[.int .u32 0, .int .u32 0, .int .u32 0, .int .u32 0, .int .u32 0, .int .u32 0, .int .u32 0, .int .u32 0, .int .u32 0, .int .u32 0, .int .u32 0, .int .u32 0, .int .u32 0, .int .u32 0, .int .u32 0, .int .u32 0, .int .u32 0, .int .u32 0, .int .u32 0, .int .u32 0, .int .u32 0, .int .u32 0, .int .u32 0, .int .u32 0, .int .u32 0, .int .u32 0, .int .u32 0, .int .u32 0, .int .u32 0, .int .u32 0, .int .u32 0, .int .u32 0, .int .u32 0, .int .u32 0, .int .u32 0, .int .u32 0, .int .u32 0, .int .u32 0, .int .u32 0, .int .u32 0, .int .u32 0, .int .u32 0, .int .u32 0, .int .u32 0, .int .u32 0, .int .u32 0, .int .u32 0, .int .u32 0, .int .u32 0, .int .u32 0, .int .u32 0, .int .u32 0, .int .u32 0, .int .u32 0, .int .u32 0, .int .u32 0, .int .u32 0, .int .u32 0, .int .u32 0, .int .u32 0, .int .u32 0, .int .u32 0, .int .u32 0, .int .u32 0] 78)).there w.heap.size 0 (wv zs).toArray.size := by
  have := (zeros64 w).there
  simp only [wv_len, List.length_replicate] at this
  simp only [List.size_toArray, wv_len, h]; exact this
theorem size64 (zs : List Int) (h : zs.length = 64) : (Tryd.prog.info? 78).map (·.size) = some (wv zs).toArray.size := by
  simp only [List.size_toArray, wv_len, h]; kernel_rfl
theorem add_step {zs L s : List Int} {k : Nat} {v : Int} (hz : zs.length = 8) (hk : k < 8) (h : ∀ j, j < 8 → zs.getD j 0 = if j < k then (s.getD j 0 + L.getD j 0) % 4294967296 else s.getD j 0) (hv : v = (s.getD k 0 + L.getD k 0) % 4294967296) :
    ∀ j, j < 8 → (zs.set k v).getD j 0 = if j < k + 1 then (s.getD j 0 + L.getD j 0) % 4294967296 else s.getD j 0 := by
  intro j hj
  by_cases e : j = k
  · subst e; rw [if_pos (by omega), hv]; simp [List.getD, hz, hk]
  · rw [List.getD_eq_getElem?_getD, List.getElem?_set_ne (by omega), ← List.getD_eq_getElem?_getD, h j hj]
    by_cases e2 : j < k
    · rw [if_pos e2, if_pos (by omega)]
    · rw [if_neg e2, if_neg (by omega)]
theorem add_end {zs : List Int} {s : S8} {a b c d e f g h : Int} (hz : zs.length = 8) (hv : ∀ j, j < 8 → zs.getD j 0 = if j < 8 then (s.toList.getD j 0 + [a, b, c, d, e, f, g, h].getD j 0) % 4294967296 else s.toList.getD j 0) :
    zs = (addS s ⟨a, b, c, d, e, f, g, h⟩).toList := by
  match zs, hz with
  | [z0, z1, z2, z3, z4, z5, z6, z7], _ =>
    have h0 := hv 0 (by omega); have h1 := hv 1 (by omega); have h2 := hv 2 (by omega); have h3 := hv 3 (by omega)
    have h4 := hv 4 (by omega); have h5 := hv 5 (by omega); have h6 := hv 6 (by omega); have h7 := hv 7 (by omega)
    simp [S8.toList] at h0 h1 h2 h3 h4 h5 h6 h7
    simp [addS, S8.toList, *]
/-- the rounds of a block, told without their making -/
def IsRounds (s : S8) (ws : List Int) (R : Nat → S8) : Prop := R 0 = s ∧ ∀ t, t < 64 → R (t + 1) = rnd (R t) (kK.getD t 0) (ws.getD t 0)

set_option maxRecDepth 100000 in
set_option maxHeartbeats 4000000 in
theorem absorb_any (sb : Nat) (s : S8) (bt : TypeId) (b off cap : Nat) (bs : List Int) (w : World) (hl : Hid (bs.length = 64)) (hcap : 64 ≤ cap) (hmax : cap ≤ 9223372036854775807) (hb : b < w.heap.size) (hne : b ≠ sb)
    (hc : Hid (BytesAt w b off bs)) (hr : Hid (∀ z ∈ bs, 0 ≤ z ∧ z ≤ 255)) (hs : Hid (Blk w sb (wv s.toList).toArray bt)) (hk : Hid (KeysAt w)) (h0 : 0 < sb)
    (ws : List Int) (hws : Hid (IsSched bs ws)) (R : Nat → S8) (hR : Hid (IsRounds s ws R)) :
    Calls Tryd.prog 41 #[.pointer (some ⟨sb, 0, none⟩), .slice (some ⟨b, off, none⟩) 64 cap] w
      fun e w' => e = .returned (.tuple #[]) ∧ Blk w' sb (wv (addS s (R 64)).toList).toArray bt ∧ w.grownBy w' (some sb) := by
  have ls := hs.out.lt
  go_enter Tryd.func41, Tryd.ntmps41
  go_wp2_with fail
  refine (sched_any b off cap bs w hl hcap hmax hb hc hr ws hws).mono ?_
  rintro e w1 ⟨rfl, hb1⟩
  have hS1 := Lib.hid (hs.out.below hb1 ls)
  have G1 := Lib.hid (gr_below (gr_refl w (some sb)) hb1)
  have hw64 := hws.out.1
  have q1 := there64 w1 ws hw64
  have q2 := size64 ws hw64
  have q3 := all_oneCell_toArray (wv_one ws)
  go_wp2_with (refine wpList_store_mid rfl 78 _ _ rfl w1.heap.size 0 (wv ws).toArray rfl rfl q1 q2 q3 ?_)
  simp only [Act.put]
  generalize hW : World.setCells _ _ _ _ = W0
  have hWB : Blk W0 w1.heap.size (wv ws).toArray 78 := by rw [← hW]; exact (zeros64 w1).fill (by simp [wv, hw64])
  have hWG : w.grownBy W0 (some sb) := by rw [← hW]; exact gr_setAll G1.out.size _ _ (gr_below G1.out (bel_alloc1 _ _))
  have hWS : Blk W0 sb (wv s.toList).toArray bt := by rw [← hW]; exact Blk.others (Nat.ne_of_lt hS1.out.lt) _ _ (hS1.out.alloc _)
  have hlt1 : sb < w1.heap.size := hS1.out.lt
  clear hW q1 q2 q3 hw64 G1 hS1
  obtain ⟨wb, hwb⟩ : ∃ wb, w1.heap.size = wb := ⟨_, rfl⟩
  rw [hwb] at hWB hlt1 ⊢
  have hbb : b < wb := by rw [← hwb]; exact Nat.lt_of_lt_of_le hb hb1.size
  clear hwb hb1
  have HB := Lib.hid hWB; have HG := Lib.hid hWG; have HS := Lib.hid hWS
  have lS := hWS.lt
  have c0 : W0.cell? ⟨sb, 0, none⟩ = some (.int .u32 s.a) := hWS.cell 0
  have c1 : W0.cell? ⟨sb, 1, none⟩ = some (.int .u32 s.b) := hWS.cell 1
  have c2 : W0.cell? ⟨sb, 2, none⟩ = some (.int .u32 s.c) := hWS.cell 2
  have c3 : W0.cell? ⟨sb, 3, none⟩ = some (.int .u32 s.d) := hWS.cell 3
  have c4 : W0.cell? ⟨sb, 4, none⟩ = some (.int .u32 s.e) := hWS.cell 4
  have c5 : W0.cell? ⟨sb, 5, none⟩ = some (.int .u32 s.f) := hWS.cell 5
  have c6 : W0.cell? ⟨sb, 6, none⟩ = some (.int .u32 s.g) := hWS.cell 6
  have c7 : W0.cell? ⟨sb, 7, none⟩ = some (.int .u32 s.h) := hWS.cell 7
  clear hWB hWG hWS
  go_quiet (fail)
  clear c0 c1 c2 c3 c4 c5 c6 c7
  generalize hwq : W0.drewN nq = wq
  have QB : Hid (Blk wq wb (wv ws).toArray 78) := Lib.hid (by rw [← hwq]; exact HB.out)
  have QS : Hid (Blk wq sb (wv s.toList).toArray bt) := Lib.hid (by rw [← hwq]; exact HS.out)
  have QG : Hid (w.grownBy wq (some sb)) := Lib.hid (by rw [← hwq]; exact gr_dn HG.out nq)
  clear hwq HB HS HG lS
  go_wp2_with fail
  go_loopw [5, 6, 7, 8, 9, 10, 11, 12, 52] (fun x0 x1 x2 x3 x4 x5 x6 x7 i wr => ∃ (t : Nat) (n a b c d e f g h : Int), t ≤ 64 ∧ n = t ∧ x0 = .int .u32 a ∧ x1 = .int .u32 b ∧ x2 = .int .u32 c ∧ x3 = .int .u32 d ∧ x4 = .int .u32 e ∧ x5 = .int .u32 f ∧ x6 = .int .u32 g ∧ x7 = .int .u32 h ∧ i = .int .i64 n ∧ Hid (R t = ⟨a, b, c, d, e, f, g, h⟩) ∧ Hid (Blk wr wb (wv ws).toArray 78) ∧ Hid (Blk wr sb (wv s.toList).toArray bt) ∧ Hid (w.grownBy wr (some sb))) (fun _ _ _ _ _ _ _ _ i _ => 64 - (intOf i).toNat)
  case atStart => exact ⟨0, 0, s.a, s.b, s.c, s.d, s.e, s.f, s.g, s.h, by omega, rfl, rfl, rfl, rfl, rfl, rfl, rfl, rfl, rfl, rfl, Lib.hid hR.out.1, QB, QS, QG⟩
  case round =>
    clear QB QS QG
    obtain ⟨t, n, a1, b1, c1, d1, e1, f1, g1, h1, ht, hn, rfl, rfl, rfl, rfl, rfl, rfl, rfl, rfl, rfl, hRt, HB, HS, HG⟩ := hrel
    by_cases hlt : t < 64
    · subst hn
      have hkc := (gr_keys HG.out hk.out h0).2 t hlt
      have hk0 := (gr_keys HG.out hk.out h0).1
      have hwc := HB.out.cell t
      rw [wv_get ws t (by have := hws.out.1; omega)] at hwc
      have hRn := Lib.hid (hR.out.2 t hlt)
      generalize kK.getD t 0 = kt at hkc hRn
      generalize ws.getD t 0 = wt at hwc hRn
      have lB := HB.out.lt
      go_wp2_with fail
      go_quiet ((go_at_call 51; first | exact Calls.quiet_of_same (ror6_c e1 _) | exact Calls.quiet_of_same (ror11_c e1 _) | exact Calls.quiet_of_same (ror25_c e1 _)))
      go_wp2_with fail
      refine (ror2_c a1 _).mono ?_; rintro e w' ⟨rfl, rfl⟩
      go_wp2_with fail
      refine (ror13_c a1 _).mono ?_; rintro e w' ⟨rfl, rfl⟩
      go_wp2_with fail
      refine (ror22_c a1 _).mono ?_; rintro e w' ⟨rfl, rfl⟩
      go_wp2_with fail
      go_roundw
      case rel =>
        exact ⟨t + 1, t + 1, _, _, _, _, _, _, _, _, by omega, by omega, rfl, rfl, rfl, rfl, rfl, rfl, rfl, rfl, rfl, Lib.hid (by rw [hRn.out, hRt.out]; rfl), Lib.hid HB.out, Lib.hid HS.out, Lib.hid (gr_dn HG.out _)⟩
      case measure => simp [intOf]; omega
    · obtain rfl : n = 64 := by omega
      obtain rfl : t = 64 := by omega
      clear hn hlt ht
      have hidx := fun k hk W => index8 a1 b1 c1 d1 e1 f1 g1 h1 k hk W
      go_wp2_with fail
      go_loopw [124] (fun i wr => ∃ (k : Nat) (zs : List Int), k ≤ 8 ∧ i = .int .i64 k ∧ Hid (zs.length = 8) ∧ Hid (∀ j, j < 8 → zs.getD j 0 = if j < k then (s.toList.getD j 0 + [a1, b1, c1, d1, e1, f1, g1, h1].getD j 0) % 4294967296 else s.toList.getD j 0) ∧ Hid (Blk wr sb (wv zs).toArray bt) ∧ Hid (w.grownBy wr (some sb))) (fun i _ => 8 - (intOf i).toNat)
      case atStart => exact ⟨0, s.toList, by omega, rfl, Lib.hid rfl, Lib.hid fun j hj => by simp, HS, HG⟩
      case round =>
        clear HS HG HB
        obtain ⟨k, zs, hk8, rfl, hz, hv, HS, HG⟩ := hrel
        by_cases hlt : k < 8
        · have hi := hidx k hlt
          have e0 := HS.out.cell k
          rw [wv_get zs k (by have := hz.out; omega)] at e0
          have f0 := HS.out.frozen k
          have l0 := HS.out.lt
          have hx := hv.out k hlt
          rw [if_neg (by omega)] at hx
          rw [hx] at e0
          clear hidx hx
          obtain ⟨y, hy⟩ : ∃ y, [a1, b1, c1, d1, e1, f1, g1, h1].getD k 0 = y := ⟨_, rfl⟩
          obtain ⟨x, hx⟩ : ∃ x, s.toList.getD k 0 = x := ⟨_, rfl⟩
          rw [hy] at hi
          rw [hx] at e0
          have HX := Lib.hid hx; have HY := Lib.hid hy
          clear hx hy
          go_wp2_with fail
          go_region
          go_wp2_with fail
          go_roundw
          case rel =>
            have hs' := (HS.out.set k (.int .u32 ((x + y) % 4294967296))).drew
            rw [wv_set] at hs'
            exact ⟨k + 1, zs.set k ((x + y) % 4294967296), by omega, by go_num, Lib.hid (by rw [List.length_set]; exact hz.out), Lib.hid (add_step hz.out hlt hv.out (by rw [HX.out, HY.out])), Lib.hid hs', Lib.hid (gr_drew (gr_set HG.out))⟩
          case measure => simp [intOf]; omega
        · obtain rfl : k = 8 := by omega
          go_wp2_with fail
          go_end0
          refine ⟨rfl, ?_, HG.out⟩
          rw [hRt.out, ← add_end hz.out hv.out]
          exact HS.out
end Go.Proofs.YtllcgehfmkmcdaaDoor
